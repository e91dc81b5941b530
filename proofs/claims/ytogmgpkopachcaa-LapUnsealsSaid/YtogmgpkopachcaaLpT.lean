/- ATOMIC SECTORS: a sector torn between two pieces. -/
import Derived.Test.YtogmgpkopachcaaLpZ
namespace Go.Proofs.Ytogmgpkopachcaa
open Go.RowKit

theorem app_le {m : Nat} (h : m ≤ 128) : m + (128 - m) ≤ 1000000000 := by omega
theorem rest_end {w : World} {v : Value} {a : Addr} {t k : Nat} {l : List Nat} (h : Rd w 1 v 128 (l.map u8)) (ht : t = 128) (hk : k = 0) : Rd w 1 (.slice (some a) (128 - t) k) (128 - t) ((l.drop t).map u8) := by
  have hl := h.len8
  subst ht hk
  rw [List.drop_of_length_le (by omega)]
  exact ⟨_, _, rfl, by decide, Nat.zero_le _, rfl, fun e => (by cases e), fun h => absurd h (by decide)⟩
theorem Rd.drewN {w : World} {v : Value} {n : Nat} {xs : List Value} (h : Rd w 1 v n xs) (k : Nat) : Rd (w.drewN k) 1 v n xs := h
def sealE (p : Pc) : Int := if p.ok then 0 else 2
def SealO (w : World) (p : Pc) (x : Ending) (w' : World) : Prop :=
  ∃ A m k F, x = .returned (.tuple #[.slice A m k, .int .i64 (sealE p)]) ∧ Adv Nul w F w' ∧ (p.ok → m = 128 ∧ Sl w' F 5 1 (.slice A 128 k) 128 ((sealL p).map u8)) ∧ (¬ p.ok → A = none ∧ m = 0 ∧ k = 0)
theorem seal_any (p : Pc) (v : Value) (w : World) (hv : Rd w 1 v p.d.length (p.d.map u8)) (hd : ∀ x ∈ p.d, x < 256) :
    Calls Try.prog 35 #[.agg #[.int .u64 (p.e : Int), .int .u64 (p.c : Int), .bool p.f, .bool p.g, v]] w (SealO w p) := by
  by_cases h : p.ok
  · refine (seal_ok p v w h hv hd).mono ?_
    rintro x w' ⟨v', F, rfl, h1, a1⟩
    obtain ⟨A, k, rfl, _, _⟩ := h1.form0
    exact ⟨A, 128, k, F, by rw [sealE, if_pos h], a1, fun _ => ⟨rfl, h1⟩, fun h' => absurd h h'⟩
  · refine (seal_no p v w h hv).mono ?_
    rintro x w' ⟨rfl, a1⟩
    exact ⟨none, 0, 0, Nul, by rw [sealE, if_neg h], a1, fun h' => absurd h' h, fun _ => ⟨rfl, rfl, rfl⟩⟩
theorem rseal_any (p : Pc) (v : Value) (w : World) (hv : Rd w 1 v p.d.length (p.d.map u8)) (hd : ∀ x ∈ p.d, x < 256) :
    Calls Try.prog 36 #[.agg #[.int .u64 (p.e : Int), .int .u64 (p.c : Int), .bool p.f, .bool p.g, v]] w (SealO w p) := by
  by_cases h : p.ok
  · refine (rseal_ok p v w h hv hd).mono ?_
    rintro x w' ⟨v', F, rfl, h1, a1⟩
    obtain ⟨A, k, rfl, _, _⟩ := h1.form0
    exact ⟨A, 128, k, F, by rw [sealE, if_pos h], a1, fun _ => ⟨rfl, h1⟩, fun h' => absurd h h'⟩
  · refine (rseal_no p v w h hv).mono ?_
    rintro x w' ⟨rfl, a1⟩
    exact ⟨none, 0, 0, Nul, by rw [sealE, if_neg h], a1, fun h' => absurd h' h, fun _ => ⟨rfl, rfl, rfl⟩⟩

set_option maxRecDepth 3000 in
set_option maxHeartbeats 3200000 in
theorem torn_walk (W : World) (x0 : Value) (h0 : PArg W x0) (x1 : Value) (h1 : PArg W x1) (n : Int) (_hn : (Lit.int .i64 n).wf = true) :
    Calls Try.prog 9 #[x0, x1, .int .i64 n] W fun e w' => e = .returned (.bool true) ∧ Below W.heap.size W w' := by
  obtain ⟨e1, c1, f1, g1, v1, l1, rfl, hi1, _, _⟩ := h0
  obtain ⟨e2, c2, f2, g2, v2, l2, rfl, hi2, _, _⟩ := h1
  obtain ⟨B1, k1, rfl, _, _⟩ := hi1.rd.form
  obtain ⟨B2, k2, rfl, _, _⟩ := hi2.rd.form
  obtain ⟨n1, hn1⟩ : ∃ n, n = l1.length := ⟨_, rfl⟩
  obtain ⟨n2, hn2⟩ : ∃ n, n = l2.length := ⟨_, rfl⟩
  rw [← hn1] at hi1 ⊢
  rw [← hn2] at hi2 ⊢
  obtain ⟨b, hb⟩ : ∃ b, b = W.heap.size := ⟨_, rfl⟩
  obtain ⟨V, hV⟩ : ∃ V, V = (W.alloc (.cells #[.int .u64 (e1 : Int), .int .u64 (c1 : Int), .bool f1, .bool g1, .slice B1 n1 k1] 61)).alloc (.cells #[.int .u64 (e2 : Int), .int .u64 (c2 : Int), .bool f2, .bool g2, .slice B2 n2 k2] 61) := ⟨_, rfl⟩
  have hX1 : Blk V b 61 #[.int .u64 (e1 : Int), .int .u64 (c1 : Int), .bool f1, .bool g1, .slice B1 n1 k1] := by rw [hV, hb]; exact (Blk.new _ _ _).alloc _
  have hX2 : Blk V (b + 1) 61 #[.int .u64 (e2 : Int), .int .u64 (c2 : Int), .bool f2, .bool g2, .slice B2 n2 k2] := by
    have h := Blk.new (W.alloc (.cells #[.int .u64 (e1 : Int), .int .u64 (c1 : Int), .bool f1, .bool g1, .slice B1 n1 k1] 61)) 61 #[.int .u64 (e2 : Int), .int .u64 (c2 : Int), .bool f2, .bool g2, .slice B2 n2 k2]
    rw [hV, hb]; simpa using h
  have hA : Adv Nul W Nul V := by rw [hV]; exact ((Adv.refl _ _).alloc _).alloc _
  obtain ⟨P, hP⟩ : ∃ P : Pc, P = ⟨e1, c1, f1, g1, l1.take 120⟩ := ⟨_, rfl⟩
  obtain ⟨Q, hQ⟩ : ∃ P : Pc, P = ⟨e2, c2, f2, g2, l2.take 120⟩ := ⟨_, rfl⟩
  obtain ⟨c10, c11, c12, c13, c14⟩ := hX1.five
  have HI1 := Lib.hid (hi1.far hA.toBelow)
  have HI2 := Lib.hid (hi2.far hA.toBelow)
  have HD1 := Lib.hid (show ∀ x ∈ P.d, x < 256 by rw [hP]; exact fun x hx => hi1.lt x (List.mem_of_mem_take hx))
  have HD2 := Lib.hid (show ∀ x ∈ Q.d, x < 256 by rw [hQ]; exact fun x hx => hi2.lt x (List.mem_of_mem_take hx))
  have hm1 := mine_any (e1 : Int) (c1 : Int) f1 g1 _ l1 V HI1.out
  have hPd : l1.take 120 = P.d := by rw [hP]
  have hQd : l2.take 120 = Q.d := by rw [hQ]
  rw [hPd] at hm1
  have hs1 : ∀ v w, Rd w 1 v P.d.length (P.d.map u8) → Calls Try.prog 35 #[.agg #[.int .u64 (e1 : Int), .int .u64 (c1 : Int), .bool f1, .bool g1, v]] w (SealO w P) := fun v w hv => by
    have h := seal_any P v w hv HD1.out
    rw [hP] at h ⊢
    exact h
  have hs2 : ∀ v w, Rd w 1 v Q.d.length (Q.d.map u8) → Calls Try.prog 35 #[.agg #[.int .u64 (e2 : Int), .int .u64 (c2 : Int), .bool f2, .bool g2, v]] w (SealO w Q) := fun v w hv => by
    have h := seal_any Q v w hv HD2.out
    rw [hQ] at h ⊢
    exact h
  have HM1 := Lib.hid hm1
  have HS1 := Lib.hid hs1
  have HS2 := Lib.hid hs2
  have HX1 := Lib.hid hX1
  have HX2 := Lib.hid hX2
  have HA := Lib.hid hA
  have HV := Lib.hid hV
  have HB := Lib.hid hb
  have HPE := Lib.hid (show P.e = e1 by rw [hP])
  have HPC := Lib.hid (show P.c = c1 by rw [hP])
  have HQE := Lib.hid (show Q.e = e2 by rw [hQ])
  have HQC := Lib.hid (show Q.c = c2 by rw [hQ])
  have HQD := Lib.hid hQd
  clear hi1 hi2 hn1 hn2 hX1 hX2 hA hm1 hPd hQd hs1 hs2 hV hb hP hQ
  go_enter Try.func9, Try.ntmps9
  go_wp2_with fail
  rw [← HV.out, ← HB.out]
  refine HM1.out.mono ?_
  intro x w1 h
  obtain ⟨a1, q1, F1, rfl, s1, t1⟩ := h
  obtain ⟨m1, hm1⟩ : ∃ m, m = P.d.length := ⟨_, rfl⟩
  have hsl1 := HS1.out _ _ s1.rd
  rw [← hm1] at hsl1 ⊢
  have HSL1 := Lib.hid hsl1
  have HW1 := Lib.hid t1
  clear hm1 hsl1 s1 t1 c10 c11 c12 c13 c14
  go_wp2_with fail
  refine HSL1.out.mono ?_
  intro x w2 h
  obtain ⟨A1, y1, z1, FA, rfl, t2, okA, _⟩ := h
  have HOKA := Lib.hid okA
  have HW2 := Lib.hid (HW1.out.over t2)
  have hx2 := HX2.out.keep (HW2.out.block (b + 1) HX2.out.lt (fun h => h))
  obtain ⟨c10, c11, c12, c13, c14⟩ := hx2.five
  have HI2' := Lib.hid (HI2.out.far HW2.out.toBelow)
  obtain ⟨E1, hE1⟩ : ∃ E, E = sealE P := ⟨_, rfl⟩
  rw [← hE1]
  have HE1 := Lib.hid hE1
  clear okA t2 hx2 hE1
  go_wp2_with fail
  refine (mine_any _ _ _ _ _ l2 _ HI2'.out).mono ?_
  intro x w3 h
  obtain ⟨a2, q2, F2, rfl, s2, t3⟩ := h
  rw [HQD.out] at s2 ⊢
  obtain ⟨m2, hm2⟩ : ∃ m, m = Q.d.length := ⟨_, rfl⟩
  have hsl2 := HS2.out _ _ s2.rd
  rw [← hm2] at hsl2 ⊢
  have HSL2 := Lib.hid hsl2
  have HW3 := Lib.hid (HW2.out.over t3)
  have HT3 := Lib.hid t3
  clear hm2 hsl2 s2 t3 c10 c11 c12 c13 c14
  go_wp2_with fail
  refine HSL2.out.mono ?_
  intro x w4 h
  obtain ⟨A2, y2, z2, FB, rfl, t4, okB, _⟩ := h
  have HOKB := Lib.hid okB
  have HW4 := Lib.hid (HW3.out.over t4)
  have hx1 := HX1.out.keep (HW4.out.block b HX1.out.lt (fun h => h))
  have hx2 := HX2.out.keep (HW4.out.block (b + 1) HX2.out.lt (fun h => h))
  obtain ⟨c10, c11, _, _, _⟩ := hx1.five
  obtain ⟨c20, c21, _, _, _⟩ := hx2.five
  obtain ⟨E2, hE2⟩ : ∃ E, E = sealE Q := ⟨_, rfl⟩
  rw [← hE2]
  have HE2 := Lib.hid hE2
  have HT4 := Lib.hid t4
  clear okB t4 hx1 hx2 hE2
  by_cases hp : P.ok
  · obtain rfl : E1 = 0 := by rw [HE1.out, sealE, if_pos hp]
    by_cases hq : Q.ok
    · obtain rfl : E2 = 0 := by rw [HE2.out, sealE, if_pos hq]
      by_cases he : e1 = e2 ∧ c1 = c2
      · obtain ⟨rfl, rfl⟩ := he
        clear hp hq
        go_wp2_with (first
          | (go_at_call 33; refine (lp_lives_any _).mono ?_; rintro x w5 ⟨rfl, hb⟩; have HBL := Lib.hid hb; clear hb)
          | fail)
        go_ret
        exact ⟨rfl, (HA.out.over HW4.out).toBelow.trans (HBL.out.mono (HA.out.over HW4.out).size)⟩
      · obtain ⟨rfl, hA4⟩ := HOKA.out hp
        obtain ⟨rfl, hB4⟩ := HOKB.out hq
        obtain ⟨gA, kA, eA, _, hkA⟩ := hA4.form (by decide)
        injection eA with eA1 _ eA3
        subst eA1 eA3
        obtain ⟨gB, kB, eB, _, hkB⟩ := hB4.form (by decide)
        injection eB with eB1 _ eB3
        subst eB1 eB3
        have hA5 := (hA4.far HT3.out (fun _ h _ => h)).far HT4.out (fun _ h _ => h)
        have HPOK := Lib.hid hp
        have HQOK := Lib.hid hq
        have HNE := Lib.hid (show P.e ≠ Q.e ∨ P.c ≠ Q.c by rw [HPE.out, HQE.out, HPC.out, HQC.out]; omega)
        have HAS := Lib.hid hA5
        have HBS := Lib.hid hB4
        have heq : ((e1 : Int) == (e2 : Int) && (c1 : Int) == (c2 : Int)) = false := by
          rw [Bool.and_eq_false_iff, beq_eq_false_iff_ne, beq_eq_false_iff_ne]; omega
        have hkAI : (128 : Int) ≤ (z1 : Int) := by omega
        have hkBI : (128 : Int) ≤ (z2 : Int) := by omega
        have HKB := Lib.hid hkB
        have HKA := Lib.hid hkA
        clear hA4 hB4 hA5 hp hq hkA hkB
        by_cases h12 : e1 = e2
        · have hb1 : ((e1 : Int) == (e2 : Int)) = true := by rw [beq_iff_eq]; omega
          have hb2 : ((c1 : Int) == (c2 : Int)) = false := by rw [beq_eq_false_iff_ne]; omega
          clear heq h12 he
          go_upto_region 7 with (fail)
          go_wp2_with fail
          refine (within_any n 0 128 _ (by decide)).mono ?_
          rintro x w5 ⟨y0, rfl, hy0, hy1, _, rfl⟩
          obtain ⟨y, rfl⟩ := Int.eq_ofNat_of_zero_le hy0
          have hyk : (y : Int) ≤ (z1 : Int) := by omega
          have HY := Lib.hid (show y ≤ 128 by omega)
          have HAF := Lib.hid (HAS.out.drew.rd.front HY.out)
          have HAR := Lib.hid HAS.out.rd
          have HLA := Lib.hid (sealL_lt HPOK.out.2.2 HD1.out)
          have HLB := Lib.hid (sealL_lt HQOK.out.2.2 HD2.out)
          have HLL := Lib.hid (sealL_length HQOK.out.2.2)
          clear hy0
          go_upto_region 8 with (fail)
          go_cut [11] (fun t11 wr => OutR w4 ((sealL P).take y ++ (sealL Q).drop y) 128 t11 wr)
          case first =>
            by_cases hzy : z2 = y
            · have hzt := eq_true hzy
              have HZY := Lib.hid hzy
              clear hzy
              refine wp_region_held_drew (S := (fun _ => True)) (by kernel_rfl) (by first | trivial) (fun hHeld => ?_)
              clear hHeld
              refine wpAnyH_take (i := 0) (oi := { dst := some 57, op := Go.Op.move (Go.Operand.tmp 7), type := 30, pos := "law.go:132", after := #[], guard := none }) (v := ?_) rfl (by kernel_rfl) (by kernel_rfl) (by kernel_rfl) (fun _ _ _ h => h) (Or.inl ⟨by rfl, ?_⟩) (by first | trivial) ?_
              rotate_left
              · (intro w hSw; obtain _ := hSw; go_simp <;> with_reducible rfl)
              simp only [Act.put, List.setIfInBounds_toArray, List.set_cons_zero, List.set_cons_succ]
              refine wpAnyH_take (i := 1) (oi := { dst := some 58, op := Go.Op.move (Go.Operand.tmp 2), type := 3, pos := "law.go:132", after := #[], guard := none }) (v := ?_) rfl (by kernel_rfl) (by kernel_rfl) (by kernel_rfl) (fun _ _ _ h => h) (Or.inl ⟨by rfl, ?_⟩) (by first | trivial) ?_
              rotate_left
              · (intro w hSw; obtain _ := hSw; go_simp <;> with_reducible rfl)
              simp only [Act.put, List.setIfInBounds_toArray, List.set_cons_zero, List.set_cons_succ]
              refine wpAnyH_take (i := 2) (oi := { dst := some 59, op := Go.Op.slice 30 (Go.Operand.tmp 57) none (some (Go.Operand.tmp 58)) none, type := 30, pos := "law.go:132", after := #[{ on := 0, ground := Go.Ground.data }, { on := 1, ground := Go.Ground.data }], guard := none }) (v := ?_) rfl (by kernel_rfl) (by kernel_rfl) (by kernel_rfl) (fun _ _ _ h => h) (Or.inl ⟨by rfl, ?_⟩) (by first | trivial) ?_
              rotate_left
              · (intro w hSw; obtain _ := hSw; go_simp <;> with_reducible rfl)
              simp only [Act.put, List.setIfInBounds_toArray, List.set_cons_zero, List.set_cons_succ]
              refine wpAnyH_take (i := 4) (oi := { dst := some 61, op := Go.Op.move (Go.Operand.tmp 9), type := 30, pos := "law.go:132", after := #[], guard := none }) (v := ?_) rfl (by kernel_rfl) (by kernel_rfl) (by kernel_rfl) (fun _ _ _ h => h) (Or.inl ⟨by rfl, ?_⟩) (by first | trivial) ?_
              rotate_left
              · (intro w hSw; obtain _ := hSw; go_simp <;> with_reducible rfl)
              simp only [Act.put, List.setIfInBounds_toArray, List.set_cons_zero, List.set_cons_succ]
              refine wpAnyH_take (i := 5) (oi := { dst := some 62, op := Go.Op.move (Go.Operand.tmp 2), type := 3, pos := "law.go:132", after := #[], guard := none }) (v := ?_) rfl (by kernel_rfl) (by kernel_rfl) (by kernel_rfl) (fun _ _ _ h => h) (Or.inl ⟨by rfl, ?_⟩) (by first | trivial) ?_
              rotate_left
              · (intro w hSw; obtain _ := hSw; go_simp <;> with_reducible rfl)
              simp only [Act.put, List.setIfInBounds_toArray, List.set_cons_zero, List.set_cons_succ]
              refine wpAnyH_take (i := 6) (oi := { dst := some 63, op := Go.Op.slice 30 (Go.Operand.tmp 61) (some (Go.Operand.tmp 62)) none none, type := 30, pos := "law.go:132", after := #[{ on := 4, ground := Go.Ground.data }, { on := 5, ground := Go.Ground.data }], guard := none }) (v := ?_) rfl (by kernel_rfl) (by kernel_rfl) (by kernel_rfl) (fun _ _ _ h => h) (Or.inl ⟨by rfl, ?_⟩) (by first | trivial) ?_
              rotate_left
              · (intro w hSw; obtain _ := hSw; go_simp <;> with_reducible rfl)
              simp only [Act.put, List.setIfInBounds_toArray, List.set_cons_zero, List.set_cons_succ]
              refine wpAnyH_ready (rs := [3]) (by kernel_rfl) (by simp) ?_
              refine AllReadyH.cons (o := { dst := some 60, op := Go.Op.call { callee := Go.Callee.value (Go.Operand.func 13), args := #[Go.Operand.tmp 59], argTypes := #[30] }, type := 30, pos := "law.go:132", after := #[{ on := 2, ground := Go.Ground.data }], guard := none }) rfl (fun K hK => ?_) AllReadyH.nil
              go_simp
              refine (copy_any _ y ((sealL P).take y) _ HAF.out (Nat.le_trans HY.out (by decide))).mono ?_
              rintro x w5 ⟨v5, F5, rfl, h5, a5⟩
              obtain ⟨A5, k5, rfl, _, _⟩ := h5.form0
              have H5 := Lib.hid h5
              have A5' := Lib.hid (Adv.of_drew a5)
              have HB5 := Lib.hid (HBS.out.drew.rd.far (fun _ _ _ h => a5.block _ h (fun h => h)) a5.size)
              clear h5 a5
              go_wp2_with fail
              refine hK.out _ _ (by first | trivial) (fun hHeld => ?_)
              clear hK K hHeld
              try simp only [Act.put, List.setIfInBounds_toArray, List.set_cons_zero, List.set_cons_succ]
              refine wpAnyH_ready (rs := [7]) (by kernel_rfl) (by simp) ?_
              refine AllReadyH.cons (o := { dst := some 64, op := Go.Op.call { callee := Go.Callee.builtin Go.Builtin.append, args := #[Go.Operand.tmp 60, Go.Operand.tmp 63], argTypes := #[30, 30] }, type := 30, pos := "law.go:132", after := #[{ on := 3, ground := Go.Ground.data }, { on := 6, ground := Go.Ground.data }, { on := 3, ground := Go.Ground.chain }], guard := none }) rfl (fun K hK => ?_) AllReadyH.nil
              refine step_append_rd rfl (.tmp 60) (.tmp 63) rfl rfl rfl H5.out.own (by first | exact HB5.out.rest8 HY.out _ (by rw [if_pos HZY.out]) | exact HB5.out.rest8 HY.out _ (by rw [if_neg HZY.out])) (u8_one _) (app_le HY.out) ?_
              intro v6 w6 hown hg hat
              rw [show y + (128 - y) = 128 by have := HY.out; omega, ← List.map_append] at hown
              obtain ⟨F6, h6, a6⟩ := grow_rd H5.out A5'.out hown hg hat (Nat.le_refl _)
              obtain ⟨A6, k6, rfl, _, _⟩ := h6.form0
              have H6 := Lib.hid h6
              have A6' := Lib.hid a6
              clear hown hg hat h6 a6
              refine hK.out _ _ (by first | trivial) (fun hHeld => ?_)
              clear hK K hHeld
              try simp only [Act.put, List.setIfInBounds_toArray, List.set_cons_zero, List.set_cons_succ]
              refine wpAnyH_take (i := 8) (oi := { dst := some 11, op := Go.Op.assign (Go.Operand.tmp 64), type := 30, pos := "law.go:132", after := #[{ on := 7, ground := Go.Ground.data }, { on := 7, ground := Go.Ground.chain }, { on := 0, ground := Go.Ground.phase }, { on := 1, ground := Go.Ground.phase }, { on := 2, ground := Go.Ground.phase }, { on := 3, ground := Go.Ground.phase }, { on := 4, ground := Go.Ground.phase }, { on := 5, ground := Go.Ground.phase }, { on := 6, ground := Go.Ground.phase }, { on := 7, ground := Go.Ground.phase }], guard := none }) (v := ?_) rfl (by kernel_rfl) (by kernel_rfl) (by kernel_rfl) (fun _ _ _ h => h) (Or.inl ⟨by rfl, ?_⟩) (by first | trivial) ?_
              rotate_left
              · (intro w hSw; obtain _ := hSw; go_simp <;> with_reducible rfl)
              simp only [Act.put, List.setIfInBounds_toArray, List.set_cons_zero, List.set_cons_succ]
              refine wpAnyH_done (by kernel_rfl) ?_ _
              go_wp2_with fail
              go_meet
              exact ⟨A6, k6, F6, rfl, H6.out, A6'.out⟩
            · have hzt := eq_false hzy
              have HZY := Lib.hid hzy
              clear hzy
              refine wp_region_held_drew (S := (fun _ => True)) (by kernel_rfl) (by first | trivial) (fun hHeld => ?_)
              clear hHeld
              refine wpAnyH_take (i := 0) (oi := { dst := some 57, op := Go.Op.move (Go.Operand.tmp 7), type := 30, pos := "law.go:132", after := #[], guard := none }) (v := ?_) rfl (by kernel_rfl) (by kernel_rfl) (by kernel_rfl) (fun _ _ _ h => h) (Or.inl ⟨by rfl, ?_⟩) (by first | trivial) ?_
              rotate_left
              · (intro w hSw; obtain _ := hSw; go_simp <;> with_reducible rfl)
              simp only [Act.put, List.setIfInBounds_toArray, List.set_cons_zero, List.set_cons_succ]
              refine wpAnyH_take (i := 1) (oi := { dst := some 58, op := Go.Op.move (Go.Operand.tmp 2), type := 3, pos := "law.go:132", after := #[], guard := none }) (v := ?_) rfl (by kernel_rfl) (by kernel_rfl) (by kernel_rfl) (fun _ _ _ h => h) (Or.inl ⟨by rfl, ?_⟩) (by first | trivial) ?_
              rotate_left
              · (intro w hSw; obtain _ := hSw; go_simp <;> with_reducible rfl)
              simp only [Act.put, List.setIfInBounds_toArray, List.set_cons_zero, List.set_cons_succ]
              refine wpAnyH_take (i := 2) (oi := { dst := some 59, op := Go.Op.slice 30 (Go.Operand.tmp 57) none (some (Go.Operand.tmp 58)) none, type := 30, pos := "law.go:132", after := #[{ on := 0, ground := Go.Ground.data }, { on := 1, ground := Go.Ground.data }], guard := none }) (v := ?_) rfl (by kernel_rfl) (by kernel_rfl) (by kernel_rfl) (fun _ _ _ h => h) (Or.inl ⟨by rfl, ?_⟩) (by first | trivial) ?_
              rotate_left
              · (intro w hSw; obtain _ := hSw; go_simp <;> with_reducible rfl)
              simp only [Act.put, List.setIfInBounds_toArray, List.set_cons_zero, List.set_cons_succ]
              refine wpAnyH_take (i := 4) (oi := { dst := some 61, op := Go.Op.move (Go.Operand.tmp 9), type := 30, pos := "law.go:132", after := #[], guard := none }) (v := ?_) rfl (by kernel_rfl) (by kernel_rfl) (by kernel_rfl) (fun _ _ _ h => h) (Or.inl ⟨by rfl, ?_⟩) (by first | trivial) ?_
              rotate_left
              · (intro w hSw; obtain _ := hSw; go_simp <;> with_reducible rfl)
              simp only [Act.put, List.setIfInBounds_toArray, List.set_cons_zero, List.set_cons_succ]
              refine wpAnyH_take (i := 5) (oi := { dst := some 62, op := Go.Op.move (Go.Operand.tmp 2), type := 3, pos := "law.go:132", after := #[], guard := none }) (v := ?_) rfl (by kernel_rfl) (by kernel_rfl) (by kernel_rfl) (fun _ _ _ h => h) (Or.inl ⟨by rfl, ?_⟩) (by first | trivial) ?_
              rotate_left
              · (intro w hSw; obtain _ := hSw; go_simp <;> with_reducible rfl)
              simp only [Act.put, List.setIfInBounds_toArray, List.set_cons_zero, List.set_cons_succ]
              refine wpAnyH_take (i := 6) (oi := { dst := some 63, op := Go.Op.slice 30 (Go.Operand.tmp 61) (some (Go.Operand.tmp 62)) none none, type := 30, pos := "law.go:132", after := #[{ on := 4, ground := Go.Ground.data }, { on := 5, ground := Go.Ground.data }], guard := none }) (v := ?_) rfl (by kernel_rfl) (by kernel_rfl) (by kernel_rfl) (fun _ _ _ h => h) (Or.inl ⟨by rfl, ?_⟩) (by first | trivial) ?_
              rotate_left
              · (intro w hSw; obtain _ := hSw; go_simp <;> with_reducible rfl)
              simp only [Act.put, List.setIfInBounds_toArray, List.set_cons_zero, List.set_cons_succ]
              refine wpAnyH_ready (rs := [3]) (by kernel_rfl) (by simp) ?_
              refine AllReadyH.cons (o := { dst := some 60, op := Go.Op.call { callee := Go.Callee.value (Go.Operand.func 13), args := #[Go.Operand.tmp 59], argTypes := #[30] }, type := 30, pos := "law.go:132", after := #[{ on := 2, ground := Go.Ground.data }], guard := none }) rfl (fun K hK => ?_) AllReadyH.nil
              go_simp
              refine (copy_any _ y ((sealL P).take y) _ HAF.out (Nat.le_trans HY.out (by decide))).mono ?_
              rintro x w5 ⟨v5, F5, rfl, h5, a5⟩
              obtain ⟨A5, k5, rfl, _, _⟩ := h5.form0
              have H5 := Lib.hid h5
              have A5' := Lib.hid (Adv.of_drew a5)
              have HB5 := Lib.hid (HBS.out.drew.rd.far (fun _ _ _ h => a5.block _ h (fun h => h)) a5.size)
              clear h5 a5
              go_wp2_with fail
              refine hK.out _ _ (by first | trivial) (fun hHeld => ?_)
              clear hK K hHeld
              try simp only [Act.put, List.setIfInBounds_toArray, List.set_cons_zero, List.set_cons_succ]
              refine wpAnyH_ready (rs := [7]) (by kernel_rfl) (by simp) ?_
              refine AllReadyH.cons (o := { dst := some 64, op := Go.Op.call { callee := Go.Callee.builtin Go.Builtin.append, args := #[Go.Operand.tmp 60, Go.Operand.tmp 63], argTypes := #[30, 30] }, type := 30, pos := "law.go:132", after := #[{ on := 3, ground := Go.Ground.data }, { on := 6, ground := Go.Ground.data }, { on := 3, ground := Go.Ground.chain }], guard := none }) rfl (fun K hK => ?_) AllReadyH.nil
              refine step_append_rd rfl (.tmp 60) (.tmp 63) rfl rfl rfl H5.out.own (by first | exact HB5.out.rest8 HY.out _ (by rw [if_pos HZY.out]) | exact HB5.out.rest8 HY.out _ (by rw [if_neg HZY.out])) (u8_one _) (app_le HY.out) ?_
              intro v6 w6 hown hg hat
              rw [show y + (128 - y) = 128 by have := HY.out; omega, ← List.map_append] at hown
              obtain ⟨F6, h6, a6⟩ := grow_rd H5.out A5'.out hown hg hat (Nat.le_refl _)
              obtain ⟨A6, k6, rfl, _, _⟩ := h6.form0
              have H6 := Lib.hid h6
              have A6' := Lib.hid a6
              clear hown hg hat h6 a6
              refine hK.out _ _ (by first | trivial) (fun hHeld => ?_)
              clear hK K hHeld
              try simp only [Act.put, List.setIfInBounds_toArray, List.set_cons_zero, List.set_cons_succ]
              refine wpAnyH_take (i := 8) (oi := { dst := some 11, op := Go.Op.assign (Go.Operand.tmp 64), type := 30, pos := "law.go:132", after := #[{ on := 7, ground := Go.Ground.data }, { on := 7, ground := Go.Ground.chain }, { on := 0, ground := Go.Ground.phase }, { on := 1, ground := Go.Ground.phase }, { on := 2, ground := Go.Ground.phase }, { on := 3, ground := Go.Ground.phase }, { on := 4, ground := Go.Ground.phase }, { on := 5, ground := Go.Ground.phase }, { on := 6, ground := Go.Ground.phase }, { on := 7, ground := Go.Ground.phase }], guard := none }) (v := ?_) rfl (by kernel_rfl) (by kernel_rfl) (by kernel_rfl) (fun _ _ _ h => h) (Or.inl ⟨by rfl, ?_⟩) (by first | trivial) ?_
              rotate_left
              · (intro w hSw; obtain _ := hSw; go_simp <;> with_reducible rfl)
              simp only [Act.put, List.setIfInBounds_toArray, List.set_cons_zero, List.set_cons_succ]
              refine wpAnyH_done (by kernel_rfl) ?_ _
              go_wp2_with fail
              go_meet
              exact ⟨A6, k6, F6, rfl, H6.out, A6'.out⟩
          case rest =>
          obtain ⟨A6, k6, F6, rfl, h6', a6'⟩ := hcut
          have H6 := Lib.hid h6'
          have A6' := Lib.hid a6'
          clear h6' a6'
          obtain ⟨C, hC⟩ : ∃ C, C = (sealL P).take y ++ (sealL Q).drop y := ⟨_, rfl⟩
          have h6 := H6.out
          rw [← hC] at h6
          have HCL := Lib.hid (show ∀ x ∈ C, x < 256 by
            rw [hC]; intro x hx
            rcases List.mem_append.1 hx with hx | hx
            · exact HLA.out x (List.mem_of_mem_take hx)
            · exact HLB.out x (List.mem_of_mem_drop hx))
          have hone : Whole C → C = sealL P ∨ C = sealL Q := fun h => by
            rw [hC] at h ⊢
            exact torn_one HPOK.out HQOK.out HNE.out y HY.out h
          have HONE := Lib.hid hone
          have HC6 := Lib.hid h6.rd
          have HA6 := Lib.hid (HAR.out.far (fun _ _ _ h => A6'.out.block _ h (fun h => h)) A6'.out.size)
          have HB6 := Lib.hid (HBS.out.rd.far (fun _ _ _ h => A6'.out.block _ h (fun h => h)) A6'.out.size)
          clear hC h6 hone H6
          go_wp2_with fail
          refine (unseal_any _ 128 C _ HC6.out HCL.out).mono ?_
          intro x w7 h
          obtain ⟨a7, k7, F7, rfl, _, t7⟩ := h
          obtain ⟨p1, hp1⟩ : ∃ p, p = (unsealP C).e := ⟨_, rfl⟩
          obtain ⟨p2, hp2⟩ : ∃ p, p = (unsealP C).c := ⟨_, rfl⟩
          obtain ⟨p3, hp3⟩ : ∃ p, p = (unsealP C).f := ⟨_, rfl⟩
          obtain ⟨p4, hp4⟩ : ∃ p, p = (unsealP C).g := ⟨_, rfl⟩
          obtain ⟨p5, hp5⟩ : ∃ p, p = (unsealP C).d.length := ⟨_, rfl⟩
          rw [← hp1, ← hp2, ← hp3, ← hp4, ← hp5]
          have HC7 := Lib.hid ((HC6.out.far (fun _ _ _ h => t7.block _ h (fun h => h)) t7.size).up (.cells #[.int .u64 (p1 : Int), .int .u64 (p2 : Int), .bool p3, .bool p4, .slice a7 p5 k7] 62))
          have HA7 := Lib.hid ((HA6.out.far (fun _ _ _ h => t7.block _ h (fun h => h)) t7.size).up (.cells #[.int .u64 (p1 : Int), .int .u64 (p2 : Int), .bool p3, .bool p4, .slice a7 p5 k7] 62))
          have HB7 := Lib.hid ((HB6.out.far (fun _ _ _ h => t7.block _ h (fun h => h)) t7.size).up (.cells #[.int .u64 (p1 : Int), .int .u64 (p2 : Int), .bool p3, .bool p4, .slice a7 p5 k7] 62))
          have HW7 := Lib.hid ((((HA.out.over HW4.out).over A6'.out).over t7).alloc (.cells #[.int .u64 (p1 : Int), .int .u64 (p2 : Int), .bool p3, .bool p4, .slice a7 p5 k7] 62))
          clear hp1 hp2 hp3 hp4 hp5 t7
          by_cases hw : Whole C
          · have e0 : unsealE C = 0 := if_pos hw
            rw [e0]
            by_cases hcp : C = sealL P
            · have HDC := Lib.hid (decide_eq_true hcp)
              clear hw hcp e0
              go_wp2_with (first
                | (go_at_call 21; refine (same_any _ _ 128 128 _ _ _ HC7.out HA7.out).mono ?_; rintro x w8 ⟨rfl, n8, rfl⟩; rw [HDC.out])
                | (go_at_call 33; refine (lp_lives_any _).mono ?_; rintro x w9 ⟨rfl, hb⟩; have HBL := Lib.hid hb; clear hb)
                | fail)
              go_ret
              exact ⟨rfl, (HW7.out.drewN n8).toBelow.trans (HBL.out.mono (HW7.out.drewN n8).size)⟩
            · have hcq : C = sealL Q := (HONE.out hw).resolve_left hcp
              have HDC := Lib.hid (decide_eq_false hcp)
              have HDQ := Lib.hid (decide_eq_true hcq)
              clear hw hcp hcq e0
              go_wp2_with fail
              refine (same_any _ _ 128 128 _ _ _ HC7.out HA7.out).mono ?_
              rintro x w8 ⟨rfl, n8, rfl⟩
              rw [HDC.out]
              go_wp2_with fail
              refine (same_any _ _ 128 128 _ _ _ (HC7.out.drewN n8) (HB7.out.drewN n8)).mono ?_
              rintro x w8 ⟨rfl, m8, rfl⟩
              rw [HDQ.out]
              go_wp2_with (first
                | (go_at_call 33; refine (lp_lives_any _).mono ?_; rintro x w9 ⟨rfl, hb⟩; have HBL := Lib.hid hb; clear hb)
                | fail)
              go_ret
              exact ⟨rfl, (HW7.out.drewN (n8 + m8)).toBelow.trans (HBL.out.mono (HW7.out.drewN (n8 + m8)).size)⟩
          · have e4 : unsealE C = 4 := if_neg hw
            rw [e4]
            clear hw e4
            go_wp2_with (first
              | (go_at_call 33; refine (lp_lives_any _).mono ?_; rintro x w9 ⟨rfl, hb⟩; have HBL := Lib.hid hb; clear hb)
              | fail)
            go_ret
            exact ⟨rfl, HW7.out.toBelow.trans (HBL.out.mono HW7.out.size)⟩
        · have hb1 : ((e1 : Int) == (e2 : Int)) = false := by rw [beq_eq_false_iff_ne]; omega
          clear heq h12 he
          go_upto_region 7 with (fail)
          go_wp2_with fail
          refine (within_any n 0 128 _ (by decide)).mono ?_
          rintro x w5 ⟨y0, rfl, hy0, hy1, _, rfl⟩
          obtain ⟨y, rfl⟩ := Int.eq_ofNat_of_zero_le hy0
          have hyk : (y : Int) ≤ (z1 : Int) := by omega
          have HY := Lib.hid (show y ≤ 128 by omega)
          have HAF := Lib.hid (HAS.out.drew.rd.front HY.out)
          have HAR := Lib.hid HAS.out.rd
          have HLA := Lib.hid (sealL_lt HPOK.out.2.2 HD1.out)
          have HLB := Lib.hid (sealL_lt HQOK.out.2.2 HD2.out)
          have HLL := Lib.hid (sealL_length HQOK.out.2.2)
          clear hy0
          go_upto_region 8 with (fail)
          go_cut [11] (fun t11 wr => OutR w4 ((sealL P).take y ++ (sealL Q).drop y) 128 t11 wr)
          case first =>
            by_cases hzy : z2 = y
            · have hzt := eq_true hzy
              have HZY := Lib.hid hzy
              clear hzy
              refine wp_region_held_drew (S := (fun _ => True)) (by kernel_rfl) (by first | trivial) (fun hHeld => ?_)
              clear hHeld
              refine wpAnyH_take (i := 0) (oi := { dst := some 57, op := Go.Op.move (Go.Operand.tmp 7), type := 30, pos := "law.go:132", after := #[], guard := none }) (v := ?_) rfl (by kernel_rfl) (by kernel_rfl) (by kernel_rfl) (fun _ _ _ h => h) (Or.inl ⟨by rfl, ?_⟩) (by first | trivial) ?_
              rotate_left
              · (intro w hSw; obtain _ := hSw; go_simp <;> with_reducible rfl)
              simp only [Act.put, List.setIfInBounds_toArray, List.set_cons_zero, List.set_cons_succ]
              refine wpAnyH_take (i := 1) (oi := { dst := some 58, op := Go.Op.move (Go.Operand.tmp 2), type := 3, pos := "law.go:132", after := #[], guard := none }) (v := ?_) rfl (by kernel_rfl) (by kernel_rfl) (by kernel_rfl) (fun _ _ _ h => h) (Or.inl ⟨by rfl, ?_⟩) (by first | trivial) ?_
              rotate_left
              · (intro w hSw; obtain _ := hSw; go_simp <;> with_reducible rfl)
              simp only [Act.put, List.setIfInBounds_toArray, List.set_cons_zero, List.set_cons_succ]
              refine wpAnyH_take (i := 2) (oi := { dst := some 59, op := Go.Op.slice 30 (Go.Operand.tmp 57) none (some (Go.Operand.tmp 58)) none, type := 30, pos := "law.go:132", after := #[{ on := 0, ground := Go.Ground.data }, { on := 1, ground := Go.Ground.data }], guard := none }) (v := ?_) rfl (by kernel_rfl) (by kernel_rfl) (by kernel_rfl) (fun _ _ _ h => h) (Or.inl ⟨by rfl, ?_⟩) (by first | trivial) ?_
              rotate_left
              · (intro w hSw; obtain _ := hSw; go_simp <;> with_reducible rfl)
              simp only [Act.put, List.setIfInBounds_toArray, List.set_cons_zero, List.set_cons_succ]
              refine wpAnyH_take (i := 4) (oi := { dst := some 61, op := Go.Op.move (Go.Operand.tmp 9), type := 30, pos := "law.go:132", after := #[], guard := none }) (v := ?_) rfl (by kernel_rfl) (by kernel_rfl) (by kernel_rfl) (fun _ _ _ h => h) (Or.inl ⟨by rfl, ?_⟩) (by first | trivial) ?_
              rotate_left
              · (intro w hSw; obtain _ := hSw; go_simp <;> with_reducible rfl)
              simp only [Act.put, List.setIfInBounds_toArray, List.set_cons_zero, List.set_cons_succ]
              refine wpAnyH_take (i := 5) (oi := { dst := some 62, op := Go.Op.move (Go.Operand.tmp 2), type := 3, pos := "law.go:132", after := #[], guard := none }) (v := ?_) rfl (by kernel_rfl) (by kernel_rfl) (by kernel_rfl) (fun _ _ _ h => h) (Or.inl ⟨by rfl, ?_⟩) (by first | trivial) ?_
              rotate_left
              · (intro w hSw; obtain _ := hSw; go_simp <;> with_reducible rfl)
              simp only [Act.put, List.setIfInBounds_toArray, List.set_cons_zero, List.set_cons_succ]
              refine wpAnyH_take (i := 6) (oi := { dst := some 63, op := Go.Op.slice 30 (Go.Operand.tmp 61) (some (Go.Operand.tmp 62)) none none, type := 30, pos := "law.go:132", after := #[{ on := 4, ground := Go.Ground.data }, { on := 5, ground := Go.Ground.data }], guard := none }) (v := ?_) rfl (by kernel_rfl) (by kernel_rfl) (by kernel_rfl) (fun _ _ _ h => h) (Or.inl ⟨by rfl, ?_⟩) (by first | trivial) ?_
              rotate_left
              · (intro w hSw; obtain _ := hSw; go_simp <;> with_reducible rfl)
              simp only [Act.put, List.setIfInBounds_toArray, List.set_cons_zero, List.set_cons_succ]
              refine wpAnyH_ready (rs := [3]) (by kernel_rfl) (by simp) ?_
              refine AllReadyH.cons (o := { dst := some 60, op := Go.Op.call { callee := Go.Callee.value (Go.Operand.func 13), args := #[Go.Operand.tmp 59], argTypes := #[30] }, type := 30, pos := "law.go:132", after := #[{ on := 2, ground := Go.Ground.data }], guard := none }) rfl (fun K hK => ?_) AllReadyH.nil
              go_simp
              refine (copy_any _ y ((sealL P).take y) _ HAF.out (Nat.le_trans HY.out (by decide))).mono ?_
              rintro x w5 ⟨v5, F5, rfl, h5, a5⟩
              obtain ⟨A5, k5, rfl, _, _⟩ := h5.form0
              have H5 := Lib.hid h5
              have A5' := Lib.hid (Adv.of_drew a5)
              have HB5 := Lib.hid (HBS.out.drew.rd.far (fun _ _ _ h => a5.block _ h (fun h => h)) a5.size)
              clear h5 a5
              go_wp2_with fail
              refine hK.out _ _ (by first | trivial) (fun hHeld => ?_)
              clear hK K hHeld
              try simp only [Act.put, List.setIfInBounds_toArray, List.set_cons_zero, List.set_cons_succ]
              refine wpAnyH_ready (rs := [7]) (by kernel_rfl) (by simp) ?_
              refine AllReadyH.cons (o := { dst := some 64, op := Go.Op.call { callee := Go.Callee.builtin Go.Builtin.append, args := #[Go.Operand.tmp 60, Go.Operand.tmp 63], argTypes := #[30, 30] }, type := 30, pos := "law.go:132", after := #[{ on := 3, ground := Go.Ground.data }, { on := 6, ground := Go.Ground.data }, { on := 3, ground := Go.Ground.chain }], guard := none }) rfl (fun K hK => ?_) AllReadyH.nil
              refine step_append_rd rfl (.tmp 60) (.tmp 63) rfl rfl rfl H5.out.own (by first | exact HB5.out.rest8 HY.out _ (by rw [if_pos HZY.out]) | exact HB5.out.rest8 HY.out _ (by rw [if_neg HZY.out])) (u8_one _) (app_le HY.out) ?_
              intro v6 w6 hown hg hat
              rw [show y + (128 - y) = 128 by have := HY.out; omega, ← List.map_append] at hown
              obtain ⟨F6, h6, a6⟩ := grow_rd H5.out A5'.out hown hg hat (Nat.le_refl _)
              obtain ⟨A6, k6, rfl, _, _⟩ := h6.form0
              have H6 := Lib.hid h6
              have A6' := Lib.hid a6
              clear hown hg hat h6 a6
              refine hK.out _ _ (by first | trivial) (fun hHeld => ?_)
              clear hK K hHeld
              try simp only [Act.put, List.setIfInBounds_toArray, List.set_cons_zero, List.set_cons_succ]
              refine wpAnyH_take (i := 8) (oi := { dst := some 11, op := Go.Op.assign (Go.Operand.tmp 64), type := 30, pos := "law.go:132", after := #[{ on := 7, ground := Go.Ground.data }, { on := 7, ground := Go.Ground.chain }, { on := 0, ground := Go.Ground.phase }, { on := 1, ground := Go.Ground.phase }, { on := 2, ground := Go.Ground.phase }, { on := 3, ground := Go.Ground.phase }, { on := 4, ground := Go.Ground.phase }, { on := 5, ground := Go.Ground.phase }, { on := 6, ground := Go.Ground.phase }, { on := 7, ground := Go.Ground.phase }], guard := none }) (v := ?_) rfl (by kernel_rfl) (by kernel_rfl) (by kernel_rfl) (fun _ _ _ h => h) (Or.inl ⟨by rfl, ?_⟩) (by first | trivial) ?_
              rotate_left
              · (intro w hSw; obtain _ := hSw; go_simp <;> with_reducible rfl)
              simp only [Act.put, List.setIfInBounds_toArray, List.set_cons_zero, List.set_cons_succ]
              refine wpAnyH_done (by kernel_rfl) ?_ _
              go_wp2_with fail
              go_meet
              exact ⟨A6, k6, F6, rfl, H6.out, A6'.out⟩
            · have hzt := eq_false hzy
              have HZY := Lib.hid hzy
              clear hzy
              refine wp_region_held_drew (S := (fun _ => True)) (by kernel_rfl) (by first | trivial) (fun hHeld => ?_)
              clear hHeld
              refine wpAnyH_take (i := 0) (oi := { dst := some 57, op := Go.Op.move (Go.Operand.tmp 7), type := 30, pos := "law.go:132", after := #[], guard := none }) (v := ?_) rfl (by kernel_rfl) (by kernel_rfl) (by kernel_rfl) (fun _ _ _ h => h) (Or.inl ⟨by rfl, ?_⟩) (by first | trivial) ?_
              rotate_left
              · (intro w hSw; obtain _ := hSw; go_simp <;> with_reducible rfl)
              simp only [Act.put, List.setIfInBounds_toArray, List.set_cons_zero, List.set_cons_succ]
              refine wpAnyH_take (i := 1) (oi := { dst := some 58, op := Go.Op.move (Go.Operand.tmp 2), type := 3, pos := "law.go:132", after := #[], guard := none }) (v := ?_) rfl (by kernel_rfl) (by kernel_rfl) (by kernel_rfl) (fun _ _ _ h => h) (Or.inl ⟨by rfl, ?_⟩) (by first | trivial) ?_
              rotate_left
              · (intro w hSw; obtain _ := hSw; go_simp <;> with_reducible rfl)
              simp only [Act.put, List.setIfInBounds_toArray, List.set_cons_zero, List.set_cons_succ]
              refine wpAnyH_take (i := 2) (oi := { dst := some 59, op := Go.Op.slice 30 (Go.Operand.tmp 57) none (some (Go.Operand.tmp 58)) none, type := 30, pos := "law.go:132", after := #[{ on := 0, ground := Go.Ground.data }, { on := 1, ground := Go.Ground.data }], guard := none }) (v := ?_) rfl (by kernel_rfl) (by kernel_rfl) (by kernel_rfl) (fun _ _ _ h => h) (Or.inl ⟨by rfl, ?_⟩) (by first | trivial) ?_
              rotate_left
              · (intro w hSw; obtain _ := hSw; go_simp <;> with_reducible rfl)
              simp only [Act.put, List.setIfInBounds_toArray, List.set_cons_zero, List.set_cons_succ]
              refine wpAnyH_take (i := 4) (oi := { dst := some 61, op := Go.Op.move (Go.Operand.tmp 9), type := 30, pos := "law.go:132", after := #[], guard := none }) (v := ?_) rfl (by kernel_rfl) (by kernel_rfl) (by kernel_rfl) (fun _ _ _ h => h) (Or.inl ⟨by rfl, ?_⟩) (by first | trivial) ?_
              rotate_left
              · (intro w hSw; obtain _ := hSw; go_simp <;> with_reducible rfl)
              simp only [Act.put, List.setIfInBounds_toArray, List.set_cons_zero, List.set_cons_succ]
              refine wpAnyH_take (i := 5) (oi := { dst := some 62, op := Go.Op.move (Go.Operand.tmp 2), type := 3, pos := "law.go:132", after := #[], guard := none }) (v := ?_) rfl (by kernel_rfl) (by kernel_rfl) (by kernel_rfl) (fun _ _ _ h => h) (Or.inl ⟨by rfl, ?_⟩) (by first | trivial) ?_
              rotate_left
              · (intro w hSw; obtain _ := hSw; go_simp <;> with_reducible rfl)
              simp only [Act.put, List.setIfInBounds_toArray, List.set_cons_zero, List.set_cons_succ]
              refine wpAnyH_take (i := 6) (oi := { dst := some 63, op := Go.Op.slice 30 (Go.Operand.tmp 61) (some (Go.Operand.tmp 62)) none none, type := 30, pos := "law.go:132", after := #[{ on := 4, ground := Go.Ground.data }, { on := 5, ground := Go.Ground.data }], guard := none }) (v := ?_) rfl (by kernel_rfl) (by kernel_rfl) (by kernel_rfl) (fun _ _ _ h => h) (Or.inl ⟨by rfl, ?_⟩) (by first | trivial) ?_
              rotate_left
              · (intro w hSw; obtain _ := hSw; go_simp <;> with_reducible rfl)
              simp only [Act.put, List.setIfInBounds_toArray, List.set_cons_zero, List.set_cons_succ]
              refine wpAnyH_ready (rs := [3]) (by kernel_rfl) (by simp) ?_
              refine AllReadyH.cons (o := { dst := some 60, op := Go.Op.call { callee := Go.Callee.value (Go.Operand.func 13), args := #[Go.Operand.tmp 59], argTypes := #[30] }, type := 30, pos := "law.go:132", after := #[{ on := 2, ground := Go.Ground.data }], guard := none }) rfl (fun K hK => ?_) AllReadyH.nil
              go_simp
              refine (copy_any _ y ((sealL P).take y) _ HAF.out (Nat.le_trans HY.out (by decide))).mono ?_
              rintro x w5 ⟨v5, F5, rfl, h5, a5⟩
              obtain ⟨A5, k5, rfl, _, _⟩ := h5.form0
              have H5 := Lib.hid h5
              have A5' := Lib.hid (Adv.of_drew a5)
              have HB5 := Lib.hid (HBS.out.drew.rd.far (fun _ _ _ h => a5.block _ h (fun h => h)) a5.size)
              clear h5 a5
              go_wp2_with fail
              refine hK.out _ _ (by first | trivial) (fun hHeld => ?_)
              clear hK K hHeld
              try simp only [Act.put, List.setIfInBounds_toArray, List.set_cons_zero, List.set_cons_succ]
              refine wpAnyH_ready (rs := [7]) (by kernel_rfl) (by simp) ?_
              refine AllReadyH.cons (o := { dst := some 64, op := Go.Op.call { callee := Go.Callee.builtin Go.Builtin.append, args := #[Go.Operand.tmp 60, Go.Operand.tmp 63], argTypes := #[30, 30] }, type := 30, pos := "law.go:132", after := #[{ on := 3, ground := Go.Ground.data }, { on := 6, ground := Go.Ground.data }, { on := 3, ground := Go.Ground.chain }], guard := none }) rfl (fun K hK => ?_) AllReadyH.nil
              refine step_append_rd rfl (.tmp 60) (.tmp 63) rfl rfl rfl H5.out.own (by first | exact HB5.out.rest8 HY.out _ (by rw [if_pos HZY.out]) | exact HB5.out.rest8 HY.out _ (by rw [if_neg HZY.out])) (u8_one _) (app_le HY.out) ?_
              intro v6 w6 hown hg hat
              rw [show y + (128 - y) = 128 by have := HY.out; omega, ← List.map_append] at hown
              obtain ⟨F6, h6, a6⟩ := grow_rd H5.out A5'.out hown hg hat (Nat.le_refl _)
              obtain ⟨A6, k6, rfl, _, _⟩ := h6.form0
              have H6 := Lib.hid h6
              have A6' := Lib.hid a6
              clear hown hg hat h6 a6
              refine hK.out _ _ (by first | trivial) (fun hHeld => ?_)
              clear hK K hHeld
              try simp only [Act.put, List.setIfInBounds_toArray, List.set_cons_zero, List.set_cons_succ]
              refine wpAnyH_take (i := 8) (oi := { dst := some 11, op := Go.Op.assign (Go.Operand.tmp 64), type := 30, pos := "law.go:132", after := #[{ on := 7, ground := Go.Ground.data }, { on := 7, ground := Go.Ground.chain }, { on := 0, ground := Go.Ground.phase }, { on := 1, ground := Go.Ground.phase }, { on := 2, ground := Go.Ground.phase }, { on := 3, ground := Go.Ground.phase }, { on := 4, ground := Go.Ground.phase }, { on := 5, ground := Go.Ground.phase }, { on := 6, ground := Go.Ground.phase }, { on := 7, ground := Go.Ground.phase }], guard := none }) (v := ?_) rfl (by kernel_rfl) (by kernel_rfl) (by kernel_rfl) (fun _ _ _ h => h) (Or.inl ⟨by rfl, ?_⟩) (by first | trivial) ?_
              rotate_left
              · (intro w hSw; obtain _ := hSw; go_simp <;> with_reducible rfl)
              simp only [Act.put, List.setIfInBounds_toArray, List.set_cons_zero, List.set_cons_succ]
              refine wpAnyH_done (by kernel_rfl) ?_ _
              go_wp2_with fail
              go_meet
              exact ⟨A6, k6, F6, rfl, H6.out, A6'.out⟩
          case rest =>
          obtain ⟨A6, k6, F6, rfl, h6', a6'⟩ := hcut
          have H6 := Lib.hid h6'
          have A6' := Lib.hid a6'
          clear h6' a6'
          obtain ⟨C, hC⟩ : ∃ C, C = (sealL P).take y ++ (sealL Q).drop y := ⟨_, rfl⟩
          have h6 := H6.out
          rw [← hC] at h6
          have HCL := Lib.hid (show ∀ x ∈ C, x < 256 by
            rw [hC]; intro x hx
            rcases List.mem_append.1 hx with hx | hx
            · exact HLA.out x (List.mem_of_mem_take hx)
            · exact HLB.out x (List.mem_of_mem_drop hx))
          have hone : Whole C → C = sealL P ∨ C = sealL Q := fun h => by
            rw [hC] at h ⊢
            exact torn_one HPOK.out HQOK.out HNE.out y HY.out h
          have HONE := Lib.hid hone
          have HC6 := Lib.hid h6.rd
          have HA6 := Lib.hid (HAR.out.far (fun _ _ _ h => A6'.out.block _ h (fun h => h)) A6'.out.size)
          have HB6 := Lib.hid (HBS.out.rd.far (fun _ _ _ h => A6'.out.block _ h (fun h => h)) A6'.out.size)
          clear hC h6 hone H6
          go_wp2_with fail
          refine (unseal_any _ 128 C _ HC6.out HCL.out).mono ?_
          intro x w7 h
          obtain ⟨a7, k7, F7, rfl, _, t7⟩ := h
          obtain ⟨p1, hp1⟩ : ∃ p, p = (unsealP C).e := ⟨_, rfl⟩
          obtain ⟨p2, hp2⟩ : ∃ p, p = (unsealP C).c := ⟨_, rfl⟩
          obtain ⟨p3, hp3⟩ : ∃ p, p = (unsealP C).f := ⟨_, rfl⟩
          obtain ⟨p4, hp4⟩ : ∃ p, p = (unsealP C).g := ⟨_, rfl⟩
          obtain ⟨p5, hp5⟩ : ∃ p, p = (unsealP C).d.length := ⟨_, rfl⟩
          rw [← hp1, ← hp2, ← hp3, ← hp4, ← hp5]
          have HC7 := Lib.hid ((HC6.out.far (fun _ _ _ h => t7.block _ h (fun h => h)) t7.size).up (.cells #[.int .u64 (p1 : Int), .int .u64 (p2 : Int), .bool p3, .bool p4, .slice a7 p5 k7] 62))
          have HA7 := Lib.hid ((HA6.out.far (fun _ _ _ h => t7.block _ h (fun h => h)) t7.size).up (.cells #[.int .u64 (p1 : Int), .int .u64 (p2 : Int), .bool p3, .bool p4, .slice a7 p5 k7] 62))
          have HB7 := Lib.hid ((HB6.out.far (fun _ _ _ h => t7.block _ h (fun h => h)) t7.size).up (.cells #[.int .u64 (p1 : Int), .int .u64 (p2 : Int), .bool p3, .bool p4, .slice a7 p5 k7] 62))
          have HW7 := Lib.hid ((((HA.out.over HW4.out).over A6'.out).over t7).alloc (.cells #[.int .u64 (p1 : Int), .int .u64 (p2 : Int), .bool p3, .bool p4, .slice a7 p5 k7] 62))
          clear hp1 hp2 hp3 hp4 hp5 t7
          by_cases hw : Whole C
          · have e0 : unsealE C = 0 := if_pos hw
            rw [e0]
            by_cases hcp : C = sealL P
            · have HDC := Lib.hid (decide_eq_true hcp)
              clear hw hcp e0
              go_wp2_with (first
                | (go_at_call 21; refine (same_any _ _ 128 128 _ _ _ HC7.out HA7.out).mono ?_; rintro x w8 ⟨rfl, n8, rfl⟩; rw [HDC.out])
                | (go_at_call 33; refine (lp_lives_any _).mono ?_; rintro x w9 ⟨rfl, hb⟩; have HBL := Lib.hid hb; clear hb)
                | fail)
              go_ret
              exact ⟨rfl, (HW7.out.drewN n8).toBelow.trans (HBL.out.mono (HW7.out.drewN n8).size)⟩
            · have hcq : C = sealL Q := (HONE.out hw).resolve_left hcp
              have HDC := Lib.hid (decide_eq_false hcp)
              have HDQ := Lib.hid (decide_eq_true hcq)
              clear hw hcp hcq e0
              go_wp2_with fail
              refine (same_any _ _ 128 128 _ _ _ HC7.out HA7.out).mono ?_
              rintro x w8 ⟨rfl, n8, rfl⟩
              rw [HDC.out]
              go_wp2_with fail
              refine (same_any _ _ 128 128 _ _ _ (HC7.out.drewN n8) (HB7.out.drewN n8)).mono ?_
              rintro x w8 ⟨rfl, m8, rfl⟩
              rw [HDQ.out]
              go_wp2_with (first
                | (go_at_call 33; refine (lp_lives_any _).mono ?_; rintro x w9 ⟨rfl, hb⟩; have HBL := Lib.hid hb; clear hb)
                | fail)
              go_ret
              exact ⟨rfl, (HW7.out.drewN (n8 + m8)).toBelow.trans (HBL.out.mono (HW7.out.drewN (n8 + m8)).size)⟩
          · have e4 : unsealE C = 4 := if_neg hw
            rw [e4]
            clear hw e4
            go_wp2_with (first
              | (go_at_call 33; refine (lp_lives_any _).mono ?_; rintro x w9 ⟨rfl, hb⟩; have HBL := Lib.hid hb; clear hb)
              | fail)
            go_ret
            exact ⟨rfl, HW7.out.toBelow.trans (HBL.out.mono HW7.out.size)⟩
    · obtain rfl : E2 = 2 := by rw [HE2.out, sealE, if_neg hq]
      clear hp hq
      go_wp2_with (first
        | (go_at_call 33; refine (lp_lives_any _).mono ?_; rintro x w5 ⟨rfl, hb⟩; have HBL := Lib.hid hb; clear hb)
        | fail)
      go_ret
      exact ⟨rfl, (HA.out.over HW4.out).toBelow.trans (HBL.out.mono (HA.out.over HW4.out).size)⟩
  · obtain rfl : E1 = 2 := by rw [HE1.out, sealE, if_neg hp]
    clear hp
    go_wp2_with (first
      | (go_at_call 33; refine (lp_lives_any _).mono ?_; rintro x w5 ⟨rfl, hb⟩; have HBL := Lib.hid hb; clear hb)
      | fail)
    go_ret
    exact ⟨rfl, (HA.out.over HW4.out).toBelow.trans (HBL.out.mono (HA.out.over HW4.out).size)⟩
end Go.Proofs.Ytogmgpkopachcaa
