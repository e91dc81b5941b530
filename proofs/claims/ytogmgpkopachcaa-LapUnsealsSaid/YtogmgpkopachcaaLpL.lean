/- Which sector any piece is. -/
import Derived.Test.YtogmgpkopachcaaLpT
import Derived.Test.YtogmgpkopachcaaLpE
namespace Go.Proofs.Ytogmgpkopachcaa
open Go.RowKit

theorem Blk.drewN' {w : World} {g : Nat} {t : TypeId} {cs : Array Value} (h : Blk w g t cs) (n : Nat) : Blk (w.drewN n) g t cs := h
/-- the sector, or nothing -/
def sealV (p : Pc) : List Nat := if p.ok then sealL p else []
theorem SealO.rd {w w' : World} {p : Pc} {x : Ending} (h : SealO w p x w') : ∃ A m k F, x = .returned (.tuple #[.slice A m k, .int .i64 (sealE p)]) ∧ Adv Nul w F w' ∧ Rd w' 1 (.slice A m k) m ((sealV p).map u8) ∧ (p.ok → m = 128) ∧ (¬ p.ok → m = 0) := by
  obtain ⟨A, m, k, F, rfl, a1, h1, h2⟩ := h
  refine ⟨A, m, k, F, rfl, a1, ?_, fun h => (h1 h).1, fun h => (h2 h).2.1⟩
  by_cases hp : p.ok
  · obtain ⟨rfl, hs⟩ := h1 hp
    rw [sealV, if_pos hp]; exact hs.rd
  · obtain ⟨rfl, rfl, rfl⟩ := h2 hp
    rw [sealV, if_neg hp]
    exact ⟨none, 0, rfl, Nat.le_refl _, Nat.zero_le _, rfl, fun _ => rfl, fun h => absurd h (by decide)⟩
theorem seal_ends {p : Pc} (h : p.ok) : val ((sealL p).take 8) / 1099511627776 = p.e ∧ val ((sealL p).drop 120) / 1099511627776 = p.e := by
  rw [sealL_take8, sealL_drop120 h.2.2, stamp_val h.1 h.2.1]
  exact ⟨stamp_div h.2.1, stamp_div h.2.1⟩
def endE (p : Pc) : Nat := if p.ok then p.e else 0
theorem pends_any (p : Pc) (v : Value) (m : Nat) (w : World) (hv : Rd w 1 v m ((sealV p).map u8)) (h1 : p.ok → m = 128) (h2 : ¬ p.ok → m = 0) (hd : ∀ x ∈ p.d, x < 256) :
    Calls Try.prog 38 #[v] w fun x w' => x = .returned (.tuple #[.int .u64 (endE p : Int), .int .u64 (endE p : Int)]) ∧ ∃ k, w' = w.drewN k := by
  by_cases hp : p.ok
  · obtain rfl := h1 hp
    rw [sealV, if_pos hp] at hv
    refine (ends_any v (sealL p) w hv (sealL_lt hp.2.2 hd)).mono ?_
    rintro x w' ⟨rfl, hk⟩
    obtain ⟨e1, e2⟩ := seal_ends hp
    rw [e1, e2, endE, if_pos hp]
    exact ⟨rfl, hk⟩
  · obtain rfl := h2 hp
    refine (ends_none v 0 _ w hv (by decide)).mono ?_
    rintro x w' ⟨rfl, rfl⟩
    rw [endE, if_neg hp]
    exact ⟨rfl, 0, rfl⟩
theorem five2 {w : World} {b q : Nat} {t t' : TypeId} {a0 a1 a2 a3 a4 d0 d1 d2 d3 d4 : Value} (h : Blk w b t #[a0, a1, a2, a3, a4]) (h' : Blk w q t' #[d0, d1, d2, d3, d4]) :
    w.cell? ⟨b, 0, none⟩ = some a0 ∧ w.cell? ⟨b, 1, none⟩ = some a1 ∧ w.cell? ⟨b, 2, none⟩ = some a2 ∧ w.cell? ⟨b, 3, none⟩ = some a3 ∧ w.cell? ⟨b, 4, none⟩ = some a4 ∧ w.cell? ⟨q, 0, none⟩ = some d0 ∧ w.cell? ⟨q, 1, none⟩ = some d1 ∧ w.cell? ⟨q, 2, none⟩ = some d2 ∧ w.cell? ⟨q, 3, none⟩ = some d3 ∧ w.cell? ⟨q, 4, none⟩ = some d4 :=
  ⟨h.cell 0, h.cell 1, h.cell 2, h.cell 3, h.cell 4, h'.cell 0, h'.cell 1, h'.cell 2, h'.cell 3, h'.cell 4⟩

/-- what stays while pieces are compared -/
structure SEnv (V : World) (b q e c : Nat) (f g : Bool) (vb vq : Value) (m : Nat) (l : List Nat) (w : World) : Prop where
  b : Blk w b 61 #[.int .u64 (e : Int), .int .u64 (c : Int), .bool f, .bool g, vb]
  q : Blk w q 62 #[.int .u64 (e : Int), .int .u64 (c : Int), .bool f, .bool g, vq]
  r : Rd w 1 vq m (l.map u8)
  a : Adv Nul V Nul w
theorem SEnv.step {V w w' : World} {b q e c m : Nat} {f g : Bool} {vb vq : Value} {l : List Nat} {F : Nat → Prop} (h : SEnv V b q e c f g vb vq m l w) (ha : Adv Nul w F w') : SEnv V b q e c f g vb vq m l w' :=
  ⟨h.b.keep (ha.block b h.b.lt (fun x => x)), h.q.keep (ha.block q h.q.lt (fun x => x)), h.r.far (fun _ _ _ hl => ha.block _ hl (fun x => x)) ha.size, h.a.trans (ha.sub (fun _ x => x.elim))⟩

set_option maxRecDepth 3000 in
set_option maxHeartbeats 3200000 in
theorem seals_walk (W : World) (x0 : Value) (h0 : PArg W x0) :
    Calls Try.prog 5 #[x0] W fun e w' => e = .returned (.bool true) ∧ Below W.heap.size W w' := by
  obtain ⟨e1, c1, f1, g1, v1, l1, rfl, hi1, _, _⟩ := h0
  obtain ⟨B1, k1, rfl, _, _⟩ := hi1.rd.form
  obtain ⟨n1, hn1⟩ : ∃ n, n = l1.length := ⟨_, rfl⟩
  rw [← hn1] at hi1 ⊢
  obtain ⟨b, hb⟩ : ∃ b, b = W.heap.size := ⟨_, rfl⟩
  obtain ⟨V, hV⟩ : ∃ V, V = W.alloc (.cells #[.int .u64 (e1 : Int), .int .u64 (c1 : Int), .bool f1, .bool g1, .slice B1 n1 k1] 61) := ⟨_, rfl⟩
  have hX1 : Blk V b 61 #[.int .u64 (e1 : Int), .int .u64 (c1 : Int), .bool f1, .bool g1, .slice B1 n1 k1] := by rw [hV, hb]; exact Blk.new _ _ _
  have hA : Adv Nul W Nul V := by rw [hV]; exact (Adv.refl _ _).alloc _
  obtain ⟨P, hP⟩ : ∃ P : Pc, P = ⟨e1, c1, f1, g1, l1.take 120⟩ := ⟨_, rfl⟩
  obtain ⟨c10, c11, c12, c13, c14⟩ := hX1.five
  have HI1 := Lib.hid (hi1.far hA.toBelow)
  have HD1 := Lib.hid (show ∀ x ∈ P.d, x < 256 by rw [hP]; exact fun x hx => hi1.lt x (List.mem_of_mem_take hx))
  have hPd : l1.take 120 = P.d := by rw [hP]
  have hm1 : ∀ w, In w (.slice B1 n1 k1) l1 → Calls Try.prog 34 #[.agg #[.int .u64 (e1 : Int), .int .u64 (c1 : Int), .bool f1, .bool g1, .slice B1 n1 k1]] w (MineR w e1 c1 f1 g1 P.d) := fun w hw => by
    have h := mine_any (e1 : Int) (c1 : Int) f1 g1 _ l1 w hw
    rw [hPd] at h; exact h
  have hs1 : ∀ v w, Rd w 1 v P.d.length (P.d.map u8) → Calls Try.prog 35 #[.agg #[.int .u64 (e1 : Int), .int .u64 (c1 : Int), .bool f1, .bool g1, v]] w (SealO w P) := fun v w hv => by
    have h := seal_any P v w hv HD1.out
    rw [hP] at h ⊢
    exact h
  have hs2 : ∀ v w, Rd w 1 v P.d.length (P.d.map u8) → Calls Try.prog 36 #[.agg #[.int .u64 (e1 : Int), .int .u64 (c1 : Int), .bool f1, .bool g1, v]] w (SealO w P) := fun v w hv => by
    have h := rseal_any P v w hv HD1.out
    rw [hP] at h ⊢
    exact h
  have HM1 := Lib.hid hm1
  have HS1 := Lib.hid hs1
  have HS2 := Lib.hid hs2
  have HX1 := Lib.hid hX1
  have HA := Lib.hid hA
  have HV := Lib.hid hV
  have HB := Lib.hid hb
  have HPE := Lib.hid (show P.e = e1 by rw [hP])
  clear hi1 hn1 hX1 hA hm1 hPd hs1 hs2 hV hb hP
  go_enter Try.func5, Try.ntmps5
  go_wp2_with fail
  rw [← HV.out, ← HB.out]
  refine (HM1.out _ HI1.out).mono ?_
  intro x w1 h
  obtain ⟨a1, q1, F1, rfl, s1, t1⟩ := h
  obtain ⟨m1, hm1⟩ : ∃ m, m = P.d.length := ⟨_, rfl⟩
  rw [← hm1] at s1 ⊢
  obtain ⟨q, hq⟩ : ∃ q, q = w1.heap.size := ⟨_, rfl⟩
  obtain ⟨w2, hw2⟩ : ∃ w2, w2 = w1.alloc (.cells #[.int .u64 (e1 : Int), .int .u64 (c1 : Int), .bool f1, .bool g1, .slice a1 m1 q1] 62) := ⟨_, rfl⟩
  have hq2 : Blk w2 q 62 #[.int .u64 (e1 : Int), .int .u64 (c1 : Int), .bool f1, .bool g1, .slice a1 m1 q1] := by rw [hw2, hq]; exact Blk.new _ _ _
  have HS2' := Lib.hid (show Rd w2 1 (.slice a1 m1 q1) m1 (P.d.map u8) by rw [hw2]; exact s1.rd.up _)
  have HT2 := Lib.hid (show Adv Nul V Nul w2 by rw [hw2]; exact (t1.sub (fun _ h => h.elim)).alloc _)
  have HQ := Lib.hid hq
  have HW2 := Lib.hid hw2
  have HQ2 := Lib.hid hq2
  have HMM := Lib.hid hm1
  clear hm1 s1 t1 c10 c11 c12 c13 c14 hq hw2 hq2
  go_upto_region 2 with (fail)
  rw [← HW2.out, ← HQ.out]
  obtain ⟨d0, d1, d2, d3, d4⟩ := HQ2.out.five
  go_wp2_with fail
  refine (HS1.out _ _ (by rw [← HMM.out]; exact HS2'.out)).mono ?_
  intro x w3 h
  obtain ⟨A3, y3, z3, F3, rfl, t3, r3, o3, p3⟩ := h.rd
  have HT3 := Lib.hid (HT2.out.trans (t3.sub (G := Nul) (fun _ h => h.elim)))
  have HBX3 := Lib.hid (HX1.out.keep (HT3.out.block b HX1.out.lt (fun h => h)))
  have HR3 := Lib.hid r3
  have HO3 := Lib.hid o3
  have HP3 := Lib.hid p3
  have HQ3 := Lib.hid (HQ2.out.keep (t3.block q HQ2.out.lt (fun h => h)))
  have HD3 := Lib.hid (HS2'.out.far (fun _ _ _ h => t3.block _ h (fun h => h)) t3.size)
  obtain ⟨E1, hE1⟩ : ∃ E, E = sealE P := ⟨_, rfl⟩
  rw [← hE1]
  have HE1 := Lib.hid hE1
  obtain ⟨c10, c11, c12, c13, c14⟩ := HBX3.out.five
  clear h t3 r3 o3 p3 hE1 d0 d1 d2 d3 d4
  go_wp2_with fail
  refine (HM1.out _ (HI1.out.far HT3.out.toBelow)).mono ?_
  intro x w4 h
  obtain ⟨a4, q4, F4, rfl, s4, t4⟩ := h
  rw [← HMM.out] at s4 ⊢
  have HT4 := Lib.hid (HT3.out.trans (t4.sub (G := Nul) (fun _ h => h.elim)))
  have HU4 := Lib.hid (t4.sub (G := Nul) (fun _ h => h.elim))
  have HS4 := Lib.hid s4.rd
  clear s4 t4 c10 c11 c12 c13 c14
  go_wp2_with fail
  refine (plain_any _ _ _ _ _ _ _ _).mono ?_
  rintro x w5 ⟨rfl, t5⟩
  have HU5 := Lib.hid (HU4.out.trans t5)
  have HS5 := Lib.hid (HS4.out.far (fun _ _ _ h => t5.block _ h (fun h => h)) t5.size)
  clear t5
  go_wp2_with fail
  refine (HS2.out _ _ (by rw [← HMM.out]; exact HS5.out)).mono ?_
  intro x w6 h
  obtain ⟨A6, y6, z6, F6, rfl, t6, r6, o6, p6⟩ := h.rd
  rw [← HE1.out]
  have HU6 := Lib.hid (HU5.out.trans (t6.sub (G := Nul) (fun _ h => h.elim)))
  have HR6 := Lib.hid r6
  have HR3' := Lib.hid (HR3.out.far (fun _ _ _ h => HU6.out.block _ h (fun h => h)) HU6.out.size)
  clear h t6 r6 o6 p6
  go_wp2_with fail
  refine (pends_any P _ _ _ HR3'.out HO3.out HP3.out HD1.out).mono ?_
  rintro x w7 ⟨rfl, n7, rfl⟩
  obtain ⟨en, hen⟩ : ∃ e, e = endE P := ⟨_, rfl⟩
  rw [← hen]
  have HEN := Lib.hid hen
  have hbx := HBX3.out.keep (HU6.out.block b HBX3.out.lt (fun h => h))
  have hqx := HQ3.out.keep (HU6.out.block q HQ3.out.lt (fun h => h))
  obtain ⟨c10, c11, c12, c13, c14⟩ := (hbx.drewN' n7).five
  have HBX := Lib.hid hbx
  have HQX := Lib.hid hqx
  clear hen hbx hqx
  by_cases hp : P.ok
  · obtain rfl : E1 = 0 := by rw [HE1.out, sealE, if_pos hp]
    obtain rfl : e1 = en := by rw [HEN.out, endE, if_pos hp, HPE.out]
    have hne : ((e1 : Int) != (e1 : Int)) = false := by simp
    clear hp
    go_upto_region 7 with (fail)
    obtain ⟨w7, hw7⟩ : ∃ w7, w7 = w6.drewN n7 := ⟨_, rfl⟩
    have hea : SEnv V b q e1 c1 f1 g1 (.slice B1 n1 k1) (.slice a1 m1 q1) m1 P.d w7 := by
      rw [hw7]
      have h0 : SEnv V b q e1 c1 f1 g1 (.slice B1 n1 k1) (.slice a1 m1 q1) m1 P.d w6 := ⟨HBX.out, HQX.out, HD3.out.far (fun _ _ _ h => HU6.out.block _ h (fun h => h)) HU6.out.size, HT3.out.trans HU6.out⟩
      exact h0.step ((Adv.refl Nul w6).drewN n7)
    have EA := Lib.hid (hea.step ((Adv.refl Nul w7).drew))
    have KA := Lib.hid (five2 EA.out.b EA.out.q)
    have HRA := Lib.hid (show Rd w7.drew 1 (.slice A3 y3 z3) y3 ((sealV P).map u8) by rw [hw7]; exact HR3'.out)
    have HRB := Lib.hid (show Rd w7.drew 1 (.slice A6 y6 z6) y6 ((sealV P).map u8) by rw [hw7]; exact HR6.out)
    rw [← hw7]
    clear hea hw7 c10 c11 c12 c13 c14
    refine wp_region_held_drew (S := (fun w' => w'.cell? ⟨b, 0, none⟩ = some (.int .u64 (e1 : Int)) ∧ w'.cell? ⟨b, 1, none⟩ = some (.int .u64 (c1 : Int)) ∧ w'.cell? ⟨b, 2, none⟩ = some (.bool f1) ∧ w'.cell? ⟨b, 3, none⟩ = some (.bool g1) ∧ w'.cell? ⟨b, 4, none⟩ = some (.slice B1 n1 k1) ∧ w'.cell? ⟨q, 0, none⟩ = some (.int .u64 (e1 : Int)) ∧ w'.cell? ⟨q, 1, none⟩ = some (.int .u64 (c1 : Int)) ∧ w'.cell? ⟨q, 2, none⟩ = some (.bool f1) ∧ w'.cell? ⟨q, 3, none⟩ = some (.bool g1) ∧ w'.cell? ⟨q, 4, none⟩ = some (.slice a1 m1 q1))) (by kernel_rfl) (by first | with_reducible exact KF.out | with_reducible exact KE.out | with_reducible exact KD.out | with_reducible exact KC.out | with_reducible exact KB.out | with_reducible exact KA.out) (fun hHeld => ?_)
    clear hHeld
    refine wpAnyH_take (i := 0) (oi := { dst := some 43, op := Go.Op.move (Go.Operand.tmp 4), type := 30, pos := "law.go:49", after := #[], guard := none }) (v := ?_) rfl (by kernel_rfl) (by kernel_rfl) (by kernel_rfl) (fun _ _ _ h => h) (Or.inl ⟨by rfl, ?_⟩) (by first | with_reducible exact KF.out | with_reducible exact KE.out | with_reducible exact KD.out | with_reducible exact KC.out | with_reducible exact KB.out | with_reducible exact KA.out) ?_
    rotate_left
    · (intro w hSw; obtain ⟨s0, s1, s2, s3, s4, s5, s6, s7, s8, s9⟩ := hSw; go_simp <;> with_reducible rfl)
    simp only [Act.put, List.setIfInBounds_toArray, List.set_cons_zero, List.set_cons_succ]
    refine wpAnyH_take (i := 1) (oi := { dst := some 44, op := Go.Op.move (Go.Operand.tmp 6), type := 30, pos := "law.go:49", after := #[], guard := none }) (v := ?_) rfl (by kernel_rfl) (by kernel_rfl) (by kernel_rfl) (fun _ _ _ h => h) (Or.inl ⟨by rfl, ?_⟩) (by first | with_reducible exact KF.out | with_reducible exact KE.out | with_reducible exact KD.out | with_reducible exact KC.out | with_reducible exact KB.out | with_reducible exact KA.out) ?_
    rotate_left
    · (intro w hSw; obtain ⟨s0, s1, s2, s3, s4, s5, s6, s7, s8, s9⟩ := hSw; go_simp <;> with_reducible rfl)
    simp only [Act.put, List.setIfInBounds_toArray, List.set_cons_zero, List.set_cons_succ]
    refine wpAnyH_ready (rs := [2]) (by kernel_rfl) (by simp) ?_
    refine AllReadyH.cons (o := { dst := some 45, op := Go.Op.call { callee := Go.Callee.value (Go.Operand.func 21), args := #[Go.Operand.tmp 43, Go.Operand.tmp 44], argTypes := #[30, 30] }, type := 4, pos := "law.go:49", after := #[{ on := 0, ground := Go.Ground.data }, { on := 1, ground := Go.Ground.data }], guard := none }) rfl (fun K hK => ?_) AllReadyH.nil
    go_simp
    refine (same_any _ _ _ _ (sealV P) (sealV P) _ HRA.out HRB.out).mono ?_
    rintro x w8 ⟨rfl, n8, hw8⟩
    rw [decide_eq_true (rfl : sealV P = sealV P)]
    have E8 := Lib.hid (show SEnv V b q e1 c1 f1 g1 (.slice B1 n1 k1) (.slice a1 m1 q1) m1 P.d w8 by rw [hw8]; exact EA.out.step ((Adv.refl Nul w7.drew).drewN n8))
    have KB := Lib.hid (five2 E8.out.b E8.out.q)
    clear hw8
    go_wp2_with fail
    refine hK.out _ _ (by first | with_reducible exact KF.out | with_reducible exact KE.out | with_reducible exact KD.out | with_reducible exact KC.out | with_reducible exact KB.out | with_reducible exact KA.out) (fun hHeld => ?_)
    clear hK K hHeld
    try simp only [Act.put, List.setIfInBounds_toArray, List.set_cons_zero, List.set_cons_succ]
    refine wpAnyH_take (i := 3) (oi := { dst := some 46, op := Go.Op.move (Go.Operand.tmp 45), type := 4, pos := "law.go:49", after := #[{ on := 2, ground := Go.Ground.data }, { on := 2, ground := Go.Ground.chain }], guard := none }) (v := ?_) rfl (by kernel_rfl) (by kernel_rfl) (by kernel_rfl) (fun _ _ _ h => h) (Or.inl ⟨by rfl, ?_⟩) (by first | with_reducible exact KF.out | with_reducible exact KE.out | with_reducible exact KD.out | with_reducible exact KC.out | with_reducible exact KB.out | with_reducible exact KA.out) ?_
    rotate_left
    · (intro w hSw; obtain ⟨s0, s1, s2, s3, s4, s5, s6, s7, s8, s9⟩ := hSw; go_simp <;> with_reducible rfl)
    simp only [Act.put, List.setIfInBounds_toArray, List.set_cons_zero, List.set_cons_succ]
    refine wpAnyH_take (i := 4) (oi := { dst := some 47, op := Go.Op.move (Go.Operand.tmp 5), type := 24, pos := "law.go:49", after := #[{ on := 3, ground := Go.Ground.guard }], guard := some (3, true) }) (v := ?_) rfl (by kernel_rfl) (by kernel_rfl) (by kernel_rfl) (fun _ _ _ h => h) (Or.inl ⟨by rfl, ?_⟩) (by first | with_reducible exact KF.out | with_reducible exact KE.out | with_reducible exact KD.out | with_reducible exact KC.out | with_reducible exact KB.out | with_reducible exact KA.out) ?_
    rotate_left
    · (intro w hSw; obtain ⟨s0, s1, s2, s3, s4, s5, s6, s7, s8, s9⟩ := hSw; go_simp <;> with_reducible rfl)
    simp only [Act.put, List.setIfInBounds_toArray, List.set_cons_zero, List.set_cons_succ]
    refine wpAnyH_take (i := 5) (oi := { dst := some 48, op := Go.Op.move (Go.Operand.tmp 7), type := 3, pos := "law.go:49", after := #[{ on := 3, ground := Go.Ground.guard }], guard := some (3, true) }) (v := ?_) rfl (by kernel_rfl) (by kernel_rfl) (by kernel_rfl) (fun _ _ _ h => h) (Or.inl ⟨by rfl, ?_⟩) (by first | with_reducible exact KF.out | with_reducible exact KE.out | with_reducible exact KD.out | with_reducible exact KC.out | with_reducible exact KB.out | with_reducible exact KA.out) ?_
    rotate_left
    · (intro w hSw; obtain ⟨s0, s1, s2, s3, s4, s5, s6, s7, s8, s9⟩ := hSw; go_simp <;> with_reducible rfl)
    simp only [Act.put, List.setIfInBounds_toArray, List.set_cons_zero, List.set_cons_succ]
    refine wpAnyH_take (i := 6) (oi := { dst := some 49, op := Go.Op.binOp Go.BinOp.eql 3 (Go.Operand.tmp 47) (Go.Operand.tmp 48) 3, type := 4, pos := "law.go:49", after := #[{ on := 4, ground := Go.Ground.data }, { on := 5, ground := Go.Ground.data }, { on := 3, ground := Go.Ground.guard }], guard := some (3, true) }) (v := ?_) rfl (by kernel_rfl) (by kernel_rfl) (by kernel_rfl) (fun _ _ _ h => h) (Or.inl ⟨by rfl, ?_⟩) (by first | with_reducible exact KF.out | with_reducible exact KE.out | with_reducible exact KD.out | with_reducible exact KC.out | with_reducible exact KB.out | with_reducible exact KA.out) ?_
    rotate_left
    · (intro w hSw; obtain ⟨s0, s1, s2, s3, s4, s5, s6, s7, s8, s9⟩ := hSw; go_simp <;> with_reducible rfl)
    simp only [Act.put, List.setIfInBounds_toArray, List.set_cons_zero, List.set_cons_succ]
    refine wpAnyH_take (i := 7) (oi := { dst := some 50, op := Go.Op.pick (Go.Operand.tmp 46) (Go.Operand.tmp 49) (Go.Operand.const (Go.Value.bool false)), type := 4, pos := "law.go:49", after := #[{ on := 3, ground := Go.Ground.data }, { on := 6, ground := Go.Ground.data }], guard := none }) (v := ?_) rfl (by kernel_rfl) (by kernel_rfl) (by kernel_rfl) (fun _ _ _ h => h) (Or.inl ⟨by rfl, ?_⟩) (by first | with_reducible exact KF.out | with_reducible exact KE.out | with_reducible exact KD.out | with_reducible exact KC.out | with_reducible exact KB.out | with_reducible exact KA.out) ?_
    rotate_left
    · (intro w hSw; obtain ⟨s0, s1, s2, s3, s4, s5, s6, s7, s8, s9⟩ := hSw; go_simp <;> with_reducible rfl)
    simp only [Act.put, List.setIfInBounds_toArray, List.set_cons_zero, List.set_cons_succ]
    refine wpAnyH_take (i := 8) (oi := { dst := some 51, op := Go.Op.move (Go.Operand.tmp 50), type := 4, pos := "law.go:49", after := #[{ on := 7, ground := Go.Ground.data }, { on := 3, ground := Go.Ground.chain }], guard := none }) (v := ?_) rfl (by kernel_rfl) (by kernel_rfl) (by kernel_rfl) (fun _ _ _ h => h) (Or.inl ⟨by rfl, ?_⟩) (by first | with_reducible exact KF.out | with_reducible exact KE.out | with_reducible exact KD.out | with_reducible exact KC.out | with_reducible exact KB.out | with_reducible exact KA.out) ?_
    rotate_left
    · (intro w hSw; obtain ⟨s0, s1, s2, s3, s4, s5, s6, s7, s8, s9⟩ := hSw; go_simp <;> with_reducible rfl)
    simp only [Act.put, List.setIfInBounds_toArray, List.set_cons_zero, List.set_cons_succ]
    refine wpAnyH_take (i := 9) (oi := { dst := some 52, op := Go.Op.load 62 (Go.Operand.tmp 3), type := 62, pos := "law.go:49", after := #[{ on := 8, ground := Go.Ground.guard }], guard := some (8, true) }) (v := ?_) rfl (by kernel_rfl) (by kernel_rfl) (by kernel_rfl) (fun _ _ _ h => h) (Or.inl ⟨by rfl, ?_⟩) (by first | with_reducible exact KF.out | with_reducible exact KE.out | with_reducible exact KD.out | with_reducible exact KC.out | with_reducible exact KB.out | with_reducible exact KA.out) ?_
    rotate_left
    · (intro w hSw; obtain ⟨s0, s1, s2, s3, s4, s5, s6, s7, s8, s9⟩ := hSw; go_simp <;> with_reducible rfl)
    simp only [Act.put, List.setIfInBounds_toArray, List.set_cons_zero, List.set_cons_succ]
    refine wpAnyH_take (i := 11) (oi := { dst := some 54, op := Go.Op.load 61 (Go.Operand.tmp 1), type := 61, pos := "law.go:49", after := #[{ on := 8, ground := Go.Ground.guard }], guard := some (8, true) }) (v := ?_) rfl (by kernel_rfl) (by kernel_rfl) (by kernel_rfl) (fun _ _ _ h => h) (Or.inl ⟨by rfl, ?_⟩) (by first | with_reducible exact KF.out | with_reducible exact KE.out | with_reducible exact KD.out | with_reducible exact KC.out | with_reducible exact KB.out | with_reducible exact KA.out) ?_
    rotate_left
    · (intro w hSw; obtain ⟨s0, s1, s2, s3, s4, s5, s6, s7, s8, s9⟩ := hSw; go_simp <;> with_reducible rfl)
    simp only [Act.put, List.setIfInBounds_toArray, List.set_cons_zero, List.set_cons_succ]
    refine wpAnyH_ready (rs := [10]) (by kernel_rfl) (by simp) ?_
    refine AllReadyH.cons (o := { dst := some 53, op := Go.Op.call { callee := Go.Callee.value (Go.Operand.func 37), args := #[Go.Operand.tmp 52], argTypes := #[62] }, type := 61, pos := "law.go:49", after := #[{ on := 9, ground := Go.Ground.data }, { on := 8, ground := Go.Ground.chain }, { on := 8, ground := Go.Ground.guard }], guard := some (8, true) }) rfl (fun K hK => ?_) AllReadyH.nil
    go_simp
    refine (plain_any _ _ _ _ _ _ _ _).mono ?_
    rintro x w9 ⟨rfl, t9⟩
    have E9 := Lib.hid (E8.out.step t9)
    have KC := Lib.hid (five2 E9.out.b E9.out.q)
    clear t9
    go_wp2_with fail
    refine hK.out _ _ (by first | with_reducible exact KF.out | with_reducible exact KE.out | with_reducible exact KD.out | with_reducible exact KC.out | with_reducible exact KB.out | with_reducible exact KA.out) (fun hHeld => ?_)
    clear hK K hHeld
    try simp only [Act.put, List.setIfInBounds_toArray, List.set_cons_zero, List.set_cons_succ]
    refine wpAnyH_ready (rs := [12]) (by kernel_rfl) (by simp) ?_
    refine AllReadyH.cons (o := { dst := some 55, op := Go.Op.call { callee := Go.Callee.value (Go.Operand.func 34), args := #[Go.Operand.tmp 54], argTypes := #[61] }, type := 62, pos := "law.go:49", after := #[{ on := 11, ground := Go.Ground.data }, { on := 10, ground := Go.Ground.chain }, { on := 8, ground := Go.Ground.guard }], guard := some (8, true) }) rfl (fun K hK => ?_) AllReadyH.nil
    go_simp
    refine (HM1.out _ (HI1.out.far E9.out.a.toBelow)).mono ?_
    intro x w10 h
    obtain ⟨a9, q9, F9, rfl, s9', t10⟩ := h
    rw [← HMM.out] at s9' ⊢
    have E10 := Lib.hid (E9.out.step t10)
    have KD := Lib.hid (five2 E10.out.b E10.out.q)
    have HS9 := Lib.hid s9'.rd
    clear s9' t10
    go_wp2_with fail
    refine hK.out _ _ (by first | with_reducible exact KF.out | with_reducible exact KE.out | with_reducible exact KD.out | with_reducible exact KC.out | with_reducible exact KB.out | with_reducible exact KA.out) (fun hHeld => ?_)
    clear hK K hHeld
    try simp only [Act.put, List.setIfInBounds_toArray, List.set_cons_zero, List.set_cons_succ]
    refine wpAnyH_ready (rs := [13]) (by kernel_rfl) (by simp) ?_
    refine AllReadyH.cons (o := { dst := some 56, op := Go.Op.call { callee := Go.Callee.value (Go.Operand.func 37), args := #[Go.Operand.tmp 55], argTypes := #[62] }, type := 61, pos := "law.go:49", after := #[{ on := 12, ground := Go.Ground.data }, { on := 12, ground := Go.Ground.chain }, { on := 8, ground := Go.Ground.guard }], guard := some (8, true) }) rfl (fun K hK => ?_) AllReadyH.nil
    go_simp
    refine (plain_any _ _ _ _ _ _ _ _).mono ?_
    rintro x w11 ⟨rfl, t11⟩
    have E11 := Lib.hid (E10.out.step t11)
    have KE := Lib.hid (five2 E11.out.b E11.out.q)
    have HS11 := Lib.hid (HS9.out.far (fun _ _ _ h => t11.block _ h (fun h => h)) t11.size)
    clear t11
    go_wp2_with fail
    refine hK.out _ _ (by first | with_reducible exact KF.out | with_reducible exact KE.out | with_reducible exact KD.out | with_reducible exact KC.out | with_reducible exact KB.out | with_reducible exact KA.out) (fun hHeld => ?_)
    clear hK K hHeld
    try simp only [Act.put, List.setIfInBounds_toArray, List.set_cons_zero, List.set_cons_succ]
    refine wpAnyH_ready (rs := [14]) (by kernel_rfl) (by simp) ?_
    refine AllReadyH.cons (o := { dst := some 57, op := Go.Op.call { callee := Go.Callee.value (Go.Operand.func 39), args := #[Go.Operand.tmp 53, Go.Operand.tmp 56], argTypes := #[61, 61] }, type := 4, pos := "law.go:49", after := #[{ on := 10, ground := Go.Ground.data }, { on := 13, ground := Go.Ground.data }, { on := 13, ground := Go.Ground.chain }, { on := 8, ground := Go.Ground.guard }], guard := some (8, true) }) rfl (fun K hK => ?_) AllReadyH.nil
    go_simp
    refine (rsame_eq _ _ _ _ _ _ m1 P.d _ E11.out.r HS11.out).mono ?_
    rintro x w12 ⟨rfl, t12⟩
    have E12 := Lib.hid (E11.out.step t12)
    have KF := Lib.hid (five2 E12.out.b E12.out.q)
    clear t12
    go_wp2_with fail
    refine hK.out _ _ (by first | with_reducible exact KF.out | with_reducible exact KE.out | with_reducible exact KD.out | with_reducible exact KC.out | with_reducible exact KB.out | with_reducible exact KA.out) (fun hHeld => ?_)
    clear hK K hHeld
    try simp only [Act.put, List.setIfInBounds_toArray, List.set_cons_zero, List.set_cons_succ]
    refine wpAnyH_take (i := 15) (oi := { dst := some 58, op := Go.Op.pick (Go.Operand.tmp 51) (Go.Operand.tmp 57) (Go.Operand.const (Go.Value.bool false)), type := 4, pos := "law.go:49", after := #[{ on := 8, ground := Go.Ground.data }, { on := 14, ground := Go.Ground.data }], guard := none }) (v := ?_) rfl (by kernel_rfl) (by kernel_rfl) (by kernel_rfl) (fun _ _ _ h => h) (Or.inl ⟨by rfl, ?_⟩) (by first | with_reducible exact KF.out | with_reducible exact KE.out | with_reducible exact KD.out | with_reducible exact KC.out | with_reducible exact KB.out | with_reducible exact KA.out) ?_
    rotate_left
    · (intro w hSw; obtain ⟨s0, s1, s2, s3, s4, s5, s6, s7, s8, s9⟩ := hSw; go_simp <;> with_reducible rfl)
    simp only [Act.put, List.setIfInBounds_toArray, List.set_cons_zero, List.set_cons_succ]
    refine wpAnyH_take (i := 16) (oi := { dst := some 59, op := Go.Op.move (Go.Operand.tmp 58), type := 4, pos := "law.go:49", after := #[{ on := 15, ground := Go.Ground.data }, { on := 14, ground := Go.Ground.chain }], guard := none }) (v := ?_) rfl (by kernel_rfl) (by kernel_rfl) (by kernel_rfl) (fun _ _ _ h => h) (Or.inl ⟨by rfl, ?_⟩) (by first | with_reducible exact KF.out | with_reducible exact KE.out | with_reducible exact KD.out | with_reducible exact KC.out | with_reducible exact KB.out | with_reducible exact KA.out) ?_
    rotate_left
    · (intro w hSw; obtain ⟨s0, s1, s2, s3, s4, s5, s6, s7, s8, s9⟩ := hSw; go_simp <;> with_reducible rfl)
    simp only [Act.put, List.setIfInBounds_toArray, List.set_cons_zero, List.set_cons_succ]
    refine wpAnyH_ready (rs := [17]) (by kernel_rfl) (by simp) ?_
    refine AllReadyH.cons (o := { dst := some 60, op := Go.Op.call { callee := Go.Callee.value (Go.Operand.func 33), args := #[], argTypes := #[] }, type := 4, pos := "law.go:49", after := #[{ on := 16, ground := Go.Ground.chain }, { on := 16, ground := Go.Ground.guard }], guard := some (16, true) }) rfl (fun K hK => ?_) AllReadyH.nil
    go_simp
    refine (lp_lives_any _).mono ?_
    rintro x w13 ⟨rfl, hbl⟩
    have E13 := Lib.hid (E12.out.step (Adv.of_below (F := Nul) hbl))
    have KF := Lib.hid (five2 E13.out.b E13.out.q)
    clear hbl
    go_wp2_with fail
    refine hK.out _ _ (by first | with_reducible exact KF.out | with_reducible exact KE.out | with_reducible exact KD.out | with_reducible exact KC.out | with_reducible exact KB.out | with_reducible exact KA.out) (fun hHeld => ?_)
    clear hK K hHeld
    try simp only [Act.put, List.setIfInBounds_toArray, List.set_cons_zero, List.set_cons_succ]
    refine wpAnyH_take (i := 18) (oi := { dst := some 61, op := Go.Op.pick (Go.Operand.tmp 59) (Go.Operand.tmp 60) (Go.Operand.const (Go.Value.bool false)), type := 4, pos := "law.go:49", after := #[{ on := 16, ground := Go.Ground.data }, { on := 17, ground := Go.Ground.data }], guard := none }) (v := ?_) rfl (by kernel_rfl) (by kernel_rfl) (by kernel_rfl) (fun _ _ _ h => h) (Or.inl ⟨by rfl, ?_⟩) (by first | with_reducible exact KF.out | with_reducible exact KE.out | with_reducible exact KD.out | with_reducible exact KC.out | with_reducible exact KB.out | with_reducible exact KA.out) ?_
    rotate_left
    · (intro w hSw; obtain ⟨s0, s1, s2, s3, s4, s5, s6, s7, s8, s9⟩ := hSw; go_simp <;> with_reducible rfl)
    simp only [Act.put, List.setIfInBounds_toArray, List.set_cons_zero, List.set_cons_succ]
    refine wpAnyH_take (i := 19) (oi := { dst := some 2, op := Go.Op.assign (Go.Operand.tmp 61), type := 4, pos := "law.go:49", after := #[{ on := 18, ground := Go.Ground.data }, { on := 17, ground := Go.Ground.chain }, { on := 0, ground := Go.Ground.phase }, { on := 1, ground := Go.Ground.phase }, { on := 2, ground := Go.Ground.phase }, { on := 3, ground := Go.Ground.phase }, { on := 4, ground := Go.Ground.phase }, { on := 5, ground := Go.Ground.phase }, { on := 6, ground := Go.Ground.phase }, { on := 7, ground := Go.Ground.phase }, { on := 8, ground := Go.Ground.phase }, { on := 9, ground := Go.Ground.phase }, { on := 10, ground := Go.Ground.phase }, { on := 11, ground := Go.Ground.phase }, { on := 12, ground := Go.Ground.phase }, { on := 13, ground := Go.Ground.phase }, { on := 14, ground := Go.Ground.phase }, { on := 15, ground := Go.Ground.phase }, { on := 16, ground := Go.Ground.phase }, { on := 17, ground := Go.Ground.phase }, { on := 18, ground := Go.Ground.phase }], guard := none }) (v := ?_) rfl (by kernel_rfl) (by kernel_rfl) (by kernel_rfl) (fun _ _ _ h => h) (Or.inl ⟨by rfl, ?_⟩) (by first | with_reducible exact KF.out | with_reducible exact KE.out | with_reducible exact KD.out | with_reducible exact KC.out | with_reducible exact KB.out | with_reducible exact KA.out) ?_
    rotate_left
    · (intro w hSw; obtain ⟨s0, s1, s2, s3, s4, s5, s6, s7, s8, s9⟩ := hSw; go_simp <;> with_reducible rfl)
    simp only [Act.put, List.setIfInBounds_toArray, List.set_cons_zero, List.set_cons_succ]
    refine wpAnyH_done (by kernel_rfl) ?_ _
    go_wp2_with fail
    go_ret
    exact ⟨rfl, (HA.out.trans E13.out.a).toBelow⟩
  · obtain rfl : E1 = 2 := by rw [HE1.out, sealE, if_neg hp]
    clear hp
    go_upto_region 7 with (fail)
    obtain ⟨w7, hw7⟩ : ∃ w7, w7 = w6.drewN n7 := ⟨_, rfl⟩
    have hea : SEnv V b q e1 c1 f1 g1 (.slice B1 n1 k1) (.slice a1 m1 q1) m1 P.d w7 := by
      rw [hw7]
      have h0 : SEnv V b q e1 c1 f1 g1 (.slice B1 n1 k1) (.slice a1 m1 q1) m1 P.d w6 := ⟨HBX.out, HQX.out, HD3.out.far (fun _ _ _ h => HU6.out.block _ h (fun h => h)) HU6.out.size, HT3.out.trans HU6.out⟩
      exact h0.step ((Adv.refl Nul w6).drewN n7)
    have EA := Lib.hid (hea.step ((Adv.refl Nul w7).drew))
    have KA := Lib.hid (five2 EA.out.b EA.out.q)
    have HRA := Lib.hid (show Rd w7.drew 1 (.slice A3 y3 z3) y3 ((sealV P).map u8) by rw [hw7]; exact HR3'.out)
    have HRB := Lib.hid (show Rd w7.drew 1 (.slice A6 y6 z6) y6 ((sealV P).map u8) by rw [hw7]; exact HR6.out)
    rw [← hw7]
    clear hea hw7 c10 c11 c12 c13 c14
    refine wp_region_held_drew (S := (fun w' => w'.cell? ⟨b, 0, none⟩ = some (.int .u64 (e1 : Int)) ∧ w'.cell? ⟨b, 1, none⟩ = some (.int .u64 (c1 : Int)) ∧ w'.cell? ⟨b, 2, none⟩ = some (.bool f1) ∧ w'.cell? ⟨b, 3, none⟩ = some (.bool g1) ∧ w'.cell? ⟨b, 4, none⟩ = some (.slice B1 n1 k1) ∧ w'.cell? ⟨q, 0, none⟩ = some (.int .u64 (e1 : Int)) ∧ w'.cell? ⟨q, 1, none⟩ = some (.int .u64 (c1 : Int)) ∧ w'.cell? ⟨q, 2, none⟩ = some (.bool f1) ∧ w'.cell? ⟨q, 3, none⟩ = some (.bool g1) ∧ w'.cell? ⟨q, 4, none⟩ = some (.slice a1 m1 q1))) (by kernel_rfl) (by first | with_reducible exact KF.out | with_reducible exact KE.out | with_reducible exact KD.out | with_reducible exact KC.out | with_reducible exact KB.out | with_reducible exact KA.out) (fun hHeld => ?_)
    clear hHeld
    refine wpAnyH_take (i := 0) (oi := { dst := some 43, op := Go.Op.move (Go.Operand.tmp 4), type := 30, pos := "law.go:49", after := #[], guard := none }) (v := ?_) rfl (by kernel_rfl) (by kernel_rfl) (by kernel_rfl) (fun _ _ _ h => h) (Or.inl ⟨by rfl, ?_⟩) (by first | with_reducible exact KF.out | with_reducible exact KE.out | with_reducible exact KD.out | with_reducible exact KC.out | with_reducible exact KB.out | with_reducible exact KA.out) ?_
    rotate_left
    · (intro w hSw; obtain ⟨s0, s1, s2, s3, s4, s5, s6, s7, s8, s9⟩ := hSw; go_simp <;> with_reducible rfl)
    simp only [Act.put, List.setIfInBounds_toArray, List.set_cons_zero, List.set_cons_succ]
    refine wpAnyH_take (i := 1) (oi := { dst := some 44, op := Go.Op.move (Go.Operand.tmp 6), type := 30, pos := "law.go:49", after := #[], guard := none }) (v := ?_) rfl (by kernel_rfl) (by kernel_rfl) (by kernel_rfl) (fun _ _ _ h => h) (Or.inl ⟨by rfl, ?_⟩) (by first | with_reducible exact KF.out | with_reducible exact KE.out | with_reducible exact KD.out | with_reducible exact KC.out | with_reducible exact KB.out | with_reducible exact KA.out) ?_
    rotate_left
    · (intro w hSw; obtain ⟨s0, s1, s2, s3, s4, s5, s6, s7, s8, s9⟩ := hSw; go_simp <;> with_reducible rfl)
    simp only [Act.put, List.setIfInBounds_toArray, List.set_cons_zero, List.set_cons_succ]
    refine wpAnyH_ready (rs := [2]) (by kernel_rfl) (by simp) ?_
    refine AllReadyH.cons (o := { dst := some 45, op := Go.Op.call { callee := Go.Callee.value (Go.Operand.func 21), args := #[Go.Operand.tmp 43, Go.Operand.tmp 44], argTypes := #[30, 30] }, type := 4, pos := "law.go:49", after := #[{ on := 0, ground := Go.Ground.data }, { on := 1, ground := Go.Ground.data }], guard := none }) rfl (fun K hK => ?_) AllReadyH.nil
    go_simp
    refine (same_any _ _ _ _ (sealV P) (sealV P) _ HRA.out HRB.out).mono ?_
    rintro x w8 ⟨rfl, n8, hw8⟩
    rw [decide_eq_true (rfl : sealV P = sealV P)]
    have E8 := Lib.hid (show SEnv V b q e1 c1 f1 g1 (.slice B1 n1 k1) (.slice a1 m1 q1) m1 P.d w8 by rw [hw8]; exact EA.out.step ((Adv.refl Nul w7.drew).drewN n8))
    have KB := Lib.hid (five2 E8.out.b E8.out.q)
    clear hw8
    go_wp2_with fail
    refine hK.out _ _ (by first | with_reducible exact KF.out | with_reducible exact KE.out | with_reducible exact KD.out | with_reducible exact KC.out | with_reducible exact KB.out | with_reducible exact KA.out) (fun hHeld => ?_)
    clear hK K hHeld
    try simp only [Act.put, List.setIfInBounds_toArray, List.set_cons_zero, List.set_cons_succ]
    refine wpAnyH_take (i := 3) (oi := { dst := some 46, op := Go.Op.move (Go.Operand.tmp 45), type := 4, pos := "law.go:49", after := #[{ on := 2, ground := Go.Ground.data }, { on := 2, ground := Go.Ground.chain }], guard := none }) (v := ?_) rfl (by kernel_rfl) (by kernel_rfl) (by kernel_rfl) (fun _ _ _ h => h) (Or.inl ⟨by rfl, ?_⟩) (by first | with_reducible exact KF.out | with_reducible exact KE.out | with_reducible exact KD.out | with_reducible exact KC.out | with_reducible exact KB.out | with_reducible exact KA.out) ?_
    rotate_left
    · (intro w hSw; obtain ⟨s0, s1, s2, s3, s4, s5, s6, s7, s8, s9⟩ := hSw; go_simp <;> with_reducible rfl)
    simp only [Act.put, List.setIfInBounds_toArray, List.set_cons_zero, List.set_cons_succ]
    refine wpAnyH_take (i := 4) (oi := { dst := some 47, op := Go.Op.move (Go.Operand.tmp 5), type := 24, pos := "law.go:49", after := #[{ on := 3, ground := Go.Ground.guard }], guard := some (3, true) }) (v := ?_) rfl (by kernel_rfl) (by kernel_rfl) (by kernel_rfl) (fun _ _ _ h => h) (Or.inl ⟨by rfl, ?_⟩) (by first | with_reducible exact KF.out | with_reducible exact KE.out | with_reducible exact KD.out | with_reducible exact KC.out | with_reducible exact KB.out | with_reducible exact KA.out) ?_
    rotate_left
    · (intro w hSw; obtain ⟨s0, s1, s2, s3, s4, s5, s6, s7, s8, s9⟩ := hSw; go_simp <;> with_reducible rfl)
    simp only [Act.put, List.setIfInBounds_toArray, List.set_cons_zero, List.set_cons_succ]
    refine wpAnyH_take (i := 5) (oi := { dst := some 48, op := Go.Op.move (Go.Operand.tmp 7), type := 3, pos := "law.go:49", after := #[{ on := 3, ground := Go.Ground.guard }], guard := some (3, true) }) (v := ?_) rfl (by kernel_rfl) (by kernel_rfl) (by kernel_rfl) (fun _ _ _ h => h) (Or.inl ⟨by rfl, ?_⟩) (by first | with_reducible exact KF.out | with_reducible exact KE.out | with_reducible exact KD.out | with_reducible exact KC.out | with_reducible exact KB.out | with_reducible exact KA.out) ?_
    rotate_left
    · (intro w hSw; obtain ⟨s0, s1, s2, s3, s4, s5, s6, s7, s8, s9⟩ := hSw; go_simp <;> with_reducible rfl)
    simp only [Act.put, List.setIfInBounds_toArray, List.set_cons_zero, List.set_cons_succ]
    refine wpAnyH_take (i := 6) (oi := { dst := some 49, op := Go.Op.binOp Go.BinOp.eql 3 (Go.Operand.tmp 47) (Go.Operand.tmp 48) 3, type := 4, pos := "law.go:49", after := #[{ on := 4, ground := Go.Ground.data }, { on := 5, ground := Go.Ground.data }, { on := 3, ground := Go.Ground.guard }], guard := some (3, true) }) (v := ?_) rfl (by kernel_rfl) (by kernel_rfl) (by kernel_rfl) (fun _ _ _ h => h) (Or.inl ⟨by rfl, ?_⟩) (by first | with_reducible exact KF.out | with_reducible exact KE.out | with_reducible exact KD.out | with_reducible exact KC.out | with_reducible exact KB.out | with_reducible exact KA.out) ?_
    rotate_left
    · (intro w hSw; obtain ⟨s0, s1, s2, s3, s4, s5, s6, s7, s8, s9⟩ := hSw; go_simp <;> with_reducible rfl)
    simp only [Act.put, List.setIfInBounds_toArray, List.set_cons_zero, List.set_cons_succ]
    refine wpAnyH_take (i := 7) (oi := { dst := some 50, op := Go.Op.pick (Go.Operand.tmp 46) (Go.Operand.tmp 49) (Go.Operand.const (Go.Value.bool false)), type := 4, pos := "law.go:49", after := #[{ on := 3, ground := Go.Ground.data }, { on := 6, ground := Go.Ground.data }], guard := none }) (v := ?_) rfl (by kernel_rfl) (by kernel_rfl) (by kernel_rfl) (fun _ _ _ h => h) (Or.inl ⟨by rfl, ?_⟩) (by first | with_reducible exact KF.out | with_reducible exact KE.out | with_reducible exact KD.out | with_reducible exact KC.out | with_reducible exact KB.out | with_reducible exact KA.out) ?_
    rotate_left
    · (intro w hSw; obtain ⟨s0, s1, s2, s3, s4, s5, s6, s7, s8, s9⟩ := hSw; go_simp <;> with_reducible rfl)
    simp only [Act.put, List.setIfInBounds_toArray, List.set_cons_zero, List.set_cons_succ]
    refine wpAnyH_take (i := 8) (oi := { dst := some 51, op := Go.Op.move (Go.Operand.tmp 50), type := 4, pos := "law.go:49", after := #[{ on := 7, ground := Go.Ground.data }, { on := 3, ground := Go.Ground.chain }], guard := none }) (v := ?_) rfl (by kernel_rfl) (by kernel_rfl) (by kernel_rfl) (fun _ _ _ h => h) (Or.inl ⟨by rfl, ?_⟩) (by first | with_reducible exact KF.out | with_reducible exact KE.out | with_reducible exact KD.out | with_reducible exact KC.out | with_reducible exact KB.out | with_reducible exact KA.out) ?_
    rotate_left
    · (intro w hSw; obtain ⟨s0, s1, s2, s3, s4, s5, s6, s7, s8, s9⟩ := hSw; go_simp <;> with_reducible rfl)
    simp only [Act.put, List.setIfInBounds_toArray, List.set_cons_zero, List.set_cons_succ]
    refine wpAnyH_take (i := 9) (oi := { dst := some 52, op := Go.Op.load 62 (Go.Operand.tmp 3), type := 62, pos := "law.go:49", after := #[{ on := 8, ground := Go.Ground.guard }], guard := some (8, true) }) (v := ?_) rfl (by kernel_rfl) (by kernel_rfl) (by kernel_rfl) (fun _ _ _ h => h) (Or.inl ⟨by rfl, ?_⟩) (by first | with_reducible exact KF.out | with_reducible exact KE.out | with_reducible exact KD.out | with_reducible exact KC.out | with_reducible exact KB.out | with_reducible exact KA.out) ?_
    rotate_left
    · (intro w hSw; obtain ⟨s0, s1, s2, s3, s4, s5, s6, s7, s8, s9⟩ := hSw; go_simp <;> with_reducible rfl)
    simp only [Act.put, List.setIfInBounds_toArray, List.set_cons_zero, List.set_cons_succ]
    refine wpAnyH_take (i := 11) (oi := { dst := some 54, op := Go.Op.load 61 (Go.Operand.tmp 1), type := 61, pos := "law.go:49", after := #[{ on := 8, ground := Go.Ground.guard }], guard := some (8, true) }) (v := ?_) rfl (by kernel_rfl) (by kernel_rfl) (by kernel_rfl) (fun _ _ _ h => h) (Or.inl ⟨by rfl, ?_⟩) (by first | with_reducible exact KF.out | with_reducible exact KE.out | with_reducible exact KD.out | with_reducible exact KC.out | with_reducible exact KB.out | with_reducible exact KA.out) ?_
    rotate_left
    · (intro w hSw; obtain ⟨s0, s1, s2, s3, s4, s5, s6, s7, s8, s9⟩ := hSw; go_simp <;> with_reducible rfl)
    simp only [Act.put, List.setIfInBounds_toArray, List.set_cons_zero, List.set_cons_succ]
    refine wpAnyH_ready (rs := [10]) (by kernel_rfl) (by simp) ?_
    refine AllReadyH.cons (o := { dst := some 53, op := Go.Op.call { callee := Go.Callee.value (Go.Operand.func 37), args := #[Go.Operand.tmp 52], argTypes := #[62] }, type := 61, pos := "law.go:49", after := #[{ on := 9, ground := Go.Ground.data }, { on := 8, ground := Go.Ground.chain }, { on := 8, ground := Go.Ground.guard }], guard := some (8, true) }) rfl (fun K hK => ?_) AllReadyH.nil
    go_simp
    refine (plain_any _ _ _ _ _ _ _ _).mono ?_
    rintro x w9 ⟨rfl, t9⟩
    have E9 := Lib.hid (E8.out.step t9)
    have KC := Lib.hid (five2 E9.out.b E9.out.q)
    clear t9
    go_wp2_with fail
    refine hK.out _ _ (by first | with_reducible exact KF.out | with_reducible exact KE.out | with_reducible exact KD.out | with_reducible exact KC.out | with_reducible exact KB.out | with_reducible exact KA.out) (fun hHeld => ?_)
    clear hK K hHeld
    try simp only [Act.put, List.setIfInBounds_toArray, List.set_cons_zero, List.set_cons_succ]
    refine wpAnyH_ready (rs := [12]) (by kernel_rfl) (by simp) ?_
    refine AllReadyH.cons (o := { dst := some 55, op := Go.Op.call { callee := Go.Callee.value (Go.Operand.func 34), args := #[Go.Operand.tmp 54], argTypes := #[61] }, type := 62, pos := "law.go:49", after := #[{ on := 11, ground := Go.Ground.data }, { on := 10, ground := Go.Ground.chain }, { on := 8, ground := Go.Ground.guard }], guard := some (8, true) }) rfl (fun K hK => ?_) AllReadyH.nil
    go_simp
    refine (HM1.out _ (HI1.out.far E9.out.a.toBelow)).mono ?_
    intro x w10 h
    obtain ⟨a9, q9, F9, rfl, s9', t10⟩ := h
    rw [← HMM.out] at s9' ⊢
    have E10 := Lib.hid (E9.out.step t10)
    have KD := Lib.hid (five2 E10.out.b E10.out.q)
    have HS9 := Lib.hid s9'.rd
    clear s9' t10
    go_wp2_with fail
    refine hK.out _ _ (by first | with_reducible exact KF.out | with_reducible exact KE.out | with_reducible exact KD.out | with_reducible exact KC.out | with_reducible exact KB.out | with_reducible exact KA.out) (fun hHeld => ?_)
    clear hK K hHeld
    try simp only [Act.put, List.setIfInBounds_toArray, List.set_cons_zero, List.set_cons_succ]
    refine wpAnyH_ready (rs := [13]) (by kernel_rfl) (by simp) ?_
    refine AllReadyH.cons (o := { dst := some 56, op := Go.Op.call { callee := Go.Callee.value (Go.Operand.func 37), args := #[Go.Operand.tmp 55], argTypes := #[62] }, type := 61, pos := "law.go:49", after := #[{ on := 12, ground := Go.Ground.data }, { on := 12, ground := Go.Ground.chain }, { on := 8, ground := Go.Ground.guard }], guard := some (8, true) }) rfl (fun K hK => ?_) AllReadyH.nil
    go_simp
    refine (plain_any _ _ _ _ _ _ _ _).mono ?_
    rintro x w11 ⟨rfl, t11⟩
    have E11 := Lib.hid (E10.out.step t11)
    have KE := Lib.hid (five2 E11.out.b E11.out.q)
    have HS11 := Lib.hid (HS9.out.far (fun _ _ _ h => t11.block _ h (fun h => h)) t11.size)
    clear t11
    go_wp2_with fail
    refine hK.out _ _ (by first | with_reducible exact KF.out | with_reducible exact KE.out | with_reducible exact KD.out | with_reducible exact KC.out | with_reducible exact KB.out | with_reducible exact KA.out) (fun hHeld => ?_)
    clear hK K hHeld
    try simp only [Act.put, List.setIfInBounds_toArray, List.set_cons_zero, List.set_cons_succ]
    refine wpAnyH_ready (rs := [14]) (by kernel_rfl) (by simp) ?_
    refine AllReadyH.cons (o := { dst := some 57, op := Go.Op.call { callee := Go.Callee.value (Go.Operand.func 39), args := #[Go.Operand.tmp 53, Go.Operand.tmp 56], argTypes := #[61, 61] }, type := 4, pos := "law.go:49", after := #[{ on := 10, ground := Go.Ground.data }, { on := 13, ground := Go.Ground.data }, { on := 13, ground := Go.Ground.chain }, { on := 8, ground := Go.Ground.guard }], guard := some (8, true) }) rfl (fun K hK => ?_) AllReadyH.nil
    go_simp
    refine (rsame_eq _ _ _ _ _ _ m1 P.d _ E11.out.r HS11.out).mono ?_
    rintro x w12 ⟨rfl, t12⟩
    have E12 := Lib.hid (E11.out.step t12)
    have KF := Lib.hid (five2 E12.out.b E12.out.q)
    clear t12
    go_wp2_with fail
    refine hK.out _ _ (by first | with_reducible exact KF.out | with_reducible exact KE.out | with_reducible exact KD.out | with_reducible exact KC.out | with_reducible exact KB.out | with_reducible exact KA.out) (fun hHeld => ?_)
    clear hK K hHeld
    try simp only [Act.put, List.setIfInBounds_toArray, List.set_cons_zero, List.set_cons_succ]
    refine wpAnyH_take (i := 15) (oi := { dst := some 58, op := Go.Op.pick (Go.Operand.tmp 51) (Go.Operand.tmp 57) (Go.Operand.const (Go.Value.bool false)), type := 4, pos := "law.go:49", after := #[{ on := 8, ground := Go.Ground.data }, { on := 14, ground := Go.Ground.data }], guard := none }) (v := ?_) rfl (by kernel_rfl) (by kernel_rfl) (by kernel_rfl) (fun _ _ _ h => h) (Or.inl ⟨by rfl, ?_⟩) (by first | with_reducible exact KF.out | with_reducible exact KE.out | with_reducible exact KD.out | with_reducible exact KC.out | with_reducible exact KB.out | with_reducible exact KA.out) ?_
    rotate_left
    · (intro w hSw; obtain ⟨s0, s1, s2, s3, s4, s5, s6, s7, s8, s9⟩ := hSw; go_simp <;> with_reducible rfl)
    simp only [Act.put, List.setIfInBounds_toArray, List.set_cons_zero, List.set_cons_succ]
    refine wpAnyH_take (i := 16) (oi := { dst := some 59, op := Go.Op.move (Go.Operand.tmp 58), type := 4, pos := "law.go:49", after := #[{ on := 15, ground := Go.Ground.data }, { on := 14, ground := Go.Ground.chain }], guard := none }) (v := ?_) rfl (by kernel_rfl) (by kernel_rfl) (by kernel_rfl) (fun _ _ _ h => h) (Or.inl ⟨by rfl, ?_⟩) (by first | with_reducible exact KF.out | with_reducible exact KE.out | with_reducible exact KD.out | with_reducible exact KC.out | with_reducible exact KB.out | with_reducible exact KA.out) ?_
    rotate_left
    · (intro w hSw; obtain ⟨s0, s1, s2, s3, s4, s5, s6, s7, s8, s9⟩ := hSw; go_simp <;> with_reducible rfl)
    simp only [Act.put, List.setIfInBounds_toArray, List.set_cons_zero, List.set_cons_succ]
    refine wpAnyH_ready (rs := [17]) (by kernel_rfl) (by simp) ?_
    refine AllReadyH.cons (o := { dst := some 60, op := Go.Op.call { callee := Go.Callee.value (Go.Operand.func 33), args := #[], argTypes := #[] }, type := 4, pos := "law.go:49", after := #[{ on := 16, ground := Go.Ground.chain }, { on := 16, ground := Go.Ground.guard }], guard := some (16, true) }) rfl (fun K hK => ?_) AllReadyH.nil
    go_simp
    refine (lp_lives_any _).mono ?_
    rintro x w13 ⟨rfl, hbl⟩
    have E13 := Lib.hid (E12.out.step (Adv.of_below (F := Nul) hbl))
    have KF := Lib.hid (five2 E13.out.b E13.out.q)
    clear hbl
    go_wp2_with fail
    refine hK.out _ _ (by first | with_reducible exact KF.out | with_reducible exact KE.out | with_reducible exact KD.out | with_reducible exact KC.out | with_reducible exact KB.out | with_reducible exact KA.out) (fun hHeld => ?_)
    clear hK K hHeld
    try simp only [Act.put, List.setIfInBounds_toArray, List.set_cons_zero, List.set_cons_succ]
    refine wpAnyH_take (i := 18) (oi := { dst := some 61, op := Go.Op.pick (Go.Operand.tmp 59) (Go.Operand.tmp 60) (Go.Operand.const (Go.Value.bool false)), type := 4, pos := "law.go:49", after := #[{ on := 16, ground := Go.Ground.data }, { on := 17, ground := Go.Ground.data }], guard := none }) (v := ?_) rfl (by kernel_rfl) (by kernel_rfl) (by kernel_rfl) (fun _ _ _ h => h) (Or.inl ⟨by rfl, ?_⟩) (by first | with_reducible exact KF.out | with_reducible exact KE.out | with_reducible exact KD.out | with_reducible exact KC.out | with_reducible exact KB.out | with_reducible exact KA.out) ?_
    rotate_left
    · (intro w hSw; obtain ⟨s0, s1, s2, s3, s4, s5, s6, s7, s8, s9⟩ := hSw; go_simp <;> with_reducible rfl)
    simp only [Act.put, List.setIfInBounds_toArray, List.set_cons_zero, List.set_cons_succ]
    refine wpAnyH_take (i := 19) (oi := { dst := some 2, op := Go.Op.assign (Go.Operand.tmp 61), type := 4, pos := "law.go:49", after := #[{ on := 18, ground := Go.Ground.data }, { on := 17, ground := Go.Ground.chain }, { on := 0, ground := Go.Ground.phase }, { on := 1, ground := Go.Ground.phase }, { on := 2, ground := Go.Ground.phase }, { on := 3, ground := Go.Ground.phase }, { on := 4, ground := Go.Ground.phase }, { on := 5, ground := Go.Ground.phase }, { on := 6, ground := Go.Ground.phase }, { on := 7, ground := Go.Ground.phase }, { on := 8, ground := Go.Ground.phase }, { on := 9, ground := Go.Ground.phase }, { on := 10, ground := Go.Ground.phase }, { on := 11, ground := Go.Ground.phase }, { on := 12, ground := Go.Ground.phase }, { on := 13, ground := Go.Ground.phase }, { on := 14, ground := Go.Ground.phase }, { on := 15, ground := Go.Ground.phase }, { on := 16, ground := Go.Ground.phase }, { on := 17, ground := Go.Ground.phase }, { on := 18, ground := Go.Ground.phase }], guard := none }) (v := ?_) rfl (by kernel_rfl) (by kernel_rfl) (by kernel_rfl) (fun _ _ _ h => h) (Or.inl ⟨by rfl, ?_⟩) (by first | with_reducible exact KF.out | with_reducible exact KE.out | with_reducible exact KD.out | with_reducible exact KC.out | with_reducible exact KB.out | with_reducible exact KA.out) ?_
    rotate_left
    · (intro w hSw; obtain ⟨s0, s1, s2, s3, s4, s5, s6, s7, s8, s9⟩ := hSw; go_simp <;> with_reducible rfl)
    simp only [Act.put, List.setIfInBounds_toArray, List.set_cons_zero, List.set_cons_succ]
    refine wpAnyH_done (by kernel_rfl) ?_ _
    go_wp2_with fail
    go_ret
    exact ⟨rfl, (HA.out.trans E13.out.a).toBelow⟩
end Go.Proofs.Ytogmgpkopachcaa
