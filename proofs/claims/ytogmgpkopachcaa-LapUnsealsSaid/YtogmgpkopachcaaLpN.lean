/- Which piece any bytes are. -/
import Derived.Test.YtogmgpkopachcaaLpL
import Derived.Test.YtogmgpkopachcaaLpV
import Derived.Deep.DeepCutAuto
namespace Go.Proofs.Ytogmgpkopachcaa
open Go.RowKit

def endX (l : List Nat) : Nat := if l.length = 128 then val (l.take 3) else 0
def endY (l : List Nat) : Nat := if l.length = 128 then val ((l.drop 120).take 3) else 0
theorem ends_all (v : Value) (n : Nat) (l : List Nat) (w : World) (h : Rd w 1 v n (l.map u8)) (hl : ∀ x ∈ l, x < 256) :
    Calls Try.prog 38 #[v] w fun x w' => x = .returned (.tuple #[.int .u64 (endX l : Int), .int .u64 (endY l : Int)]) ∧ ∃ k, w' = w.drewN k := by
  have hll := h.len8
  by_cases hn : n = 128
  · subst hn
    have e1 : val (l.take 8) / 1099511627776 = endX l := by
      rw [endX, if_pos hll, val3 (by rw [List.length_take]; omega) (fun x hx => hl x (List.mem_of_mem_take hx)), List.take_take]; rfl
    have e2 : val (l.drop 120) / 1099511627776 = endY l := by
      rw [endY, if_pos hll, val3 (by rw [List.length_drop]; omega) (fun x hx => hl x (List.mem_of_mem_drop hx))]
    have h1 := ends_any v l w h hl
    rw [e1, e2] at h1
    exact h1
  · have e1 : endX l = 0 := if_neg (by omega)
    have e2 : endY l = 0 := if_neg (by omega)
    rw [e1, e2]
    refine (ends_none v n l w h hn).mono ?_
    rintro x w' ⟨rfl, rfl⟩
    exact ⟨rfl, 0, rfl⟩
/-- what stays while pieces are compared and bytes are turned -/
structure UEnv (V : World) (Fo : Nat → Prop) (q p e c : Nat) (f g : Bool) (a1 a2 : Option Addr) (vo : Value) (m k1 k2 : Nat) (D : List Nat) (w : World) : Prop where
  bq : Blk w q 62 #[.int .u64 (e : Int), .int .u64 (c : Int), .bool f, .bool g, .slice a1 m k1]
  bp : Blk w p 61 #[.int .u64 (e : Int), .int .u64 (c : Int), .bool f, .bool g, .slice a2 m k2]
  r1 : Rd w 1 (.slice a1 m k1) m (D.map u8)
  r2 : Rd w 1 (.slice a2 m k2) m (D.map u8)
  a : Below V.heap.size V w
  nq : ¬ Fo q
  np : ¬ Fo p
  n1 : ∀ k, (Value.slice a1 m k1).ownBlock = some k → ¬ Fo k
  n2 : ∀ k, (Value.slice a2 m k2).ownBlock = some k → ¬ Fo k
  old : ∀ k, Fo k → V.heap.size ≤ k
theorem UEnv.step {V w w' : World} {Fo F' : Nat → Prop} {q p e c m k1 k2 : Nat} {f g : Bool} {a1 a2 : Option Addr} {vo : Value} {D : List Nat} (h : UEnv V Fo q p e c f g a1 a2 vo m k1 k2 D w) (ha : Adv Fo w F' w') : UEnv V Fo q p e c f g a1 a2 vo m k1 k2 D w' :=
  ⟨h.bq.keep (ha.block q h.bq.lt h.nq), h.bp.keep (ha.block p h.bp.lt h.np), h.r1.far (fun k hk _ hl => ha.block k hl (h.n1 k hk)) ha.size, h.r2.far (fun k hk _ hl => ha.block k hl (h.n2 k hk)) ha.size, ha.below h.a h.old h.a.size, h.nq, h.np, h.n1, h.n2, h.old⟩

def OwnR (Fo : Nat → Prop) (v : Value) (n : Nat) (w : World) : Prop := ∃ l' : List Nat, Sl w Fo 5 1 v n (l'.map u8)
theorem OwnR.at_ {Fo : Nat → Prop} {n k : Nat} {v : Value} {w : World} (h : OwnR Fo v n w) (hk : k < n) : ∃ g c x, v = .slice (some ⟨g, 0, none⟩) n c ∧ Fo g ∧ w.cell? ⟨g, k, none⟩ = some (.int .u8 ((x : Nat) : Int)) ∧ w.frozen? ⟨g, k, none⟩ = false ∧
    OwnR Fo v n (w.setCell ⟨g, k, none⟩ (.int .u8 (((x + 1) % 256 : Nat) : Int))) := by
  obtain ⟨l', hs⟩ := h
  obtain ⟨g, c, rfl, hg, _⟩ := hs.form (by omega)
  have hl : l'.length = n := by have := hs.own.1; simpa using this
  exact ⟨g, c, l'[k]'(by omega), rfl, hg, hs.at8 hk (by omega), hs.own.frozenAt k, _, hs.set8 k ((l'[k]'(by omega) + 1) % 256) _ rfl⟩
def TurnR (V : World) (Fo : Nat → Prop) (q p e c : Nat) (f g : Bool) (a1 a2 : Option Addr) (vo : Value) (m k1 k2 : Nat) (D : List Nat) (n : Nat) (t12 : Value) (wr : World) : Prop :=
  ∃ k : Nat, k ≤ n ∧ t12 = .int .i64 (k : Int) ∧ UEnv V Fo q p e c f g a1 a2 vo m k1 k2 D wr ∧ OwnR Fo vo n wr
theorem wrap_next (x : Nat) : IntKind.u8.wrap ((x : Int) + 1) = (((x + 1) % 256 : Nat) : Int) := by rw [IntKind.wrap_u8]; omega
def HeadR (l : List Nat) (w : World) (t10 t11 : Value) (wr : World) : Prop := t10 = .int .u64 (endX l : Int) ∧ t11 = .int .u64 (endY l : Int) ∧ ∃ k, wr = w.drewN k

set_option maxRecDepth 3000 in
set_option maxHeartbeats 3200000 in
theorem unseals_walk (W : World) (v0 : Value) (h0 : ∃ l, In W v0 l) :
    Calls Try.prog 6 #[v0] W fun e w' => e = .returned (.bool true) ∧ Below W.heap.size W w' := by
  obtain ⟨l0, hi⟩ := h0
  have HI0 := Lib.hid hi
  clear hi
  go_enter Try.func6, Try.ntmps6
  go_wp2_with fail
  refine (cut_any v0 l0 140 W HI0.out (by decide)).mono ?_
  rintro e w0 ⟨v1, rfl, h1, rfl⟩
  obtain ⟨A1, c1, rfl, _, _⟩ := h1.rd.form
  have hn : (l0.take 140).length ≤ 140 := by simp; omega
  obtain ⟨l, hl⟩ : ∃ k, k = l0.take 140 := ⟨_, rfl⟩
  rw [← hl] at hn h1 ⊢
  obtain ⟨n, hnn⟩ : ∃ n, n = l.length := ⟨_, rfl⟩
  have HIB := Lib.hid (show InN W (.slice A1 n c1) n l by rw [hnn]; exact h1.num rfl)
  rw [← hnn] at hn ⊢
  have HN := Lib.hid hnn
  have HLT := Lib.hid h1.lt
  have hnI : (n : Int) ≤ 140 := by omega
  have HNN := Lib.hid hn
  clear hl hnn h1 hn
  go_wp2_with fail
  refine (copy_any _ n l _ HIB.out.rd (by have := HNN.out; omega)).mono ?_
  rintro e w1 ⟨v2, Fo, rfl, s2, t2⟩
  obtain ⟨A2, c2, rfl, _, _⟩ := s2.form0
  have HO1 := Lib.hid s2
  have HT1 := Lib.hid t2
  clear s2 t2
  go_wp2_with fail
  refine (unseal_any _ n l _ HO1.out.rd HLT.out).mono ?_
  intro x w2 h
  obtain ⟨a1, k1, F1, rfl, s3, t3⟩ := h
  obtain ⟨pe, hpe⟩ : ∃ p, p = (unsealP l).e := ⟨_, rfl⟩
  obtain ⟨pn, hpn⟩ : ∃ p, p = (unsealP l).c := ⟨_, rfl⟩
  obtain ⟨pf, hpf⟩ : ∃ p, p = (unsealP l).f := ⟨_, rfl⟩
  obtain ⟨pg, hpg⟩ : ∃ p, p = (unsealP l).g := ⟨_, rfl⟩
  obtain ⟨m, hm⟩ : ∃ p, p = (unsealP l).d.length := ⟨_, rfl⟩
  obtain ⟨D, hD⟩ : ∃ p, p = (unsealP l).d := ⟨_, rfl⟩
  obtain ⟨E, hE⟩ : ∃ p, p = unsealE l := ⟨_, rfl⟩
  rw [← hm, ← hD] at s3
  rw [← hpe, ← hpn, ← hpf, ← hpg, ← hm, ← hE]
  have HPE := Lib.hid hpe
  have HPN := Lib.hid hpn
  have HPF := Lib.hid hpf
  have HPG := Lib.hid hpg
  have HM := Lib.hid hm
  have HD := Lib.hid hD
  have HE := Lib.hid hE
  clear hpe hpn hpf hpg hm hD hE
  obtain ⟨q, hq⟩ : ∃ q, q = w2.heap.size := ⟨_, rfl⟩
  obtain ⟨w3, hw3⟩ : ∃ w3, w3 = w2.alloc (.cells #[.int .u64 (pe : Int), .int .u64 (pn : Int), .bool pf, .bool pg, .slice a1 m k1] 62) := ⟨_, rfl⟩
  have HQ3 := Lib.hid (show Blk w3 q 62 #[.int .u64 (pe : Int), .int .u64 (pn : Int), .bool pf, .bool pg, .slice a1 m k1] by rw [hw3, hq]; exact Blk.new _ _ _)
  have HR3 := Lib.hid (show Rd w3 1 (.slice a1 m k1) m (D.map u8) by rw [hw3]; exact s3.rd.up _)
  have HU3 := Lib.hid (show Adv Nul w1 Nul w3 by rw [hw3]; exact (t3.sub (fun _ h => h.elim)).alloc _)
  have HFQ := Lib.hid (show ¬ Fo q from fun h => by have h1 := HO1.out.bd q h; have h2 := t3.size; omega)
  have HF1 := Lib.hid (show ∀ k, (Value.slice a1 m k1).ownBlock = some k → ¬ Fo k from fun k hk h => by
    have h1 := HO1.out.bd k h
    rcases t3.into k (s3.inF k hk) with h2 | h2
    · exact h2
    · omega)
  have HQ := Lib.hid hq
  have HW3 := Lib.hid hw3
  clear s3 t3 hq hw3
  go_upto_region 4 with (fail)
  rw [← HW3.out, ← HQ.out]
  have HBX := Lib.hid (HIB.out.far (HT1.out.trans (HU3.out.weak (fun _ h => h.elim))).toBelow)
  go_wp2_with fail
  refine (runseal_any _ n l _ HBX.out.rd HLT.out).mono ?_
  intro x w4 h
  obtain ⟨a2, k2, F2, rfl, s4, t4⟩ := h
  rw [← HM.out, ← HD.out] at s4
  rw [← HPE.out, ← HPN.out, ← HPF.out, ← HPG.out, ← HM.out, ← HE.out]
  obtain ⟨p, hp⟩ : ∃ q, q = w4.heap.size := ⟨_, rfl⟩
  obtain ⟨w5, hw5⟩ : ∃ w3, w3 = w4.alloc (.cells #[.int .u64 (pe : Int), .int .u64 (pn : Int), .bool pf, .bool pg, .slice a2 m k2] 61) := ⟨_, rfl⟩
  have hU5 : Adv Nul w3 Nul w5 := by rw [hw5]; exact (t4.sub (fun _ h => h.elim)).alloc _
  have hE5 : UEnv W Fo q p pe pn pf pg a1 a2 (.slice A2 n c2) m k1 k2 D w5 := by
    refine ⟨HQ3.out.keep (hU5.block q HQ3.out.lt (fun h => h)), by rw [hw5, hp]; exact Blk.new _ _ _, HR3.out.far (fun _ _ _ h => hU5.block _ h (fun h => h)) hU5.size, by rw [hw5]; exact s4.rd.up _, ?_, HFQ.out, fun h => ?_, HF1.out, fun k hk h => ?_, fun k hk => ?_⟩
    · exact (HT1.out.trans ((HU3.out.trans hU5).weak (fun _ h => h.elim))).toBelow
    · have h1 := HO1.out.bd p h; have h2 := HU3.out.size; have h3 := t4.size; omega
    · have h1 := HO1.out.bd k h
      have h3 := HU3.out.size
      rcases t4.into k (s4.inF k hk) with h2 | h2
      · exact h2
      · omega
    · rcases HT1.out.into k hk with h | h
      · exact h.elim
      · exact h
  have HO5 := Lib.hid (HO1.out.far (HU3.out.trans hU5) (fun _ h _ => h))
  have HE5 := Lib.hid hE5
  have HP := Lib.hid hp
  have HW5 := Lib.hid hw5
  clear s4 t4 hp hw5 hU5 hE5
  go_upto_region 5 with (fail)
  rw [← HW5.out, ← HP.out]
  go_wp2_with fail
  refine (ends_all _ n l _ HO5.out.rd HLT.out).mono ?_
  rintro x w6 ⟨rfl, n6, hw6⟩
  have E6 := Lib.hid (show UEnv W Fo q p pe pn pf pg a1 a2 (.slice A2 n c2) m k1 k2 D w6 by rw [hw6]; exact HE5.out.step ((Adv.refl Fo w5).drewN n6))
  have HO6 := Lib.hid (show Sl w6 Fo 5 1 (.slice A2 n c2) n (l.map u8) by rw [hw6]; exact HO5.out.far ((Adv.refl Nul w5).drewN n6) (fun _ h _ => h))
  clear hw6
  obtain ⟨X, hX⟩ : ∃ X, X = endX l := ⟨_, rfl⟩
  obtain ⟨Y, hY⟩ : ∃ X, X = endY l := ⟨_, rfl⟩
  rw [← hX, ← hY]
  have HX := Lib.hid hX
  have HY := Lib.hid hY
  clear hX hY
  have HBX6 := Lib.hid (HIB.out.far E6.out.a)
  go_upto_if 34 with (fail)
  go_cut [10, 11] (fun t10 t11 wr => HeadR l w6 t10 t11 wr)
  case first =>
    by_cases h128 : n = 128
    · have hbx := HBX6.out
      subst h128
      obtain ⟨bb, oo, cb, eb, _, hnc, hcm⟩ := hbx.rd.adr (by decide)
      injection eb with e1 _ e3
      subst e1 e3
      have hr3 := hbx.rd.sub 0 3 c1 (by decide) (by omega) hcm
      have hr4 := hbx.rd.sub 120 3 (c1 - 120) (by decide) (by omega) (by omega)
      rw [Nat.add_zero, List.drop_zero] at hr3
      unfold maxLen at hcm
      have HR3' := Lib.hid hr3
      have HR4' := Lib.hid hr4
      have L3 := Lib.hid (show ∀ x ∈ l.take 3, x < 256 from fun x hx => HLT.out x (List.mem_of_mem_take hx))
      have L4 := Lib.hid (show ∀ x ∈ (l.drop 120).take 3, x < 256 from fun x hx => HLT.out x (List.mem_of_mem_drop (List.mem_of_mem_take hx)))
      have hc3 : (3 : Int) ≤ (c1 : Int) := by omega
      have hc123 : (123 : Int) ≤ (c1 : Int) := by omega
      have hcn : ¬ c1 = 120 := by omega
      have HXX := Lib.hid (show val (l.take 3) = X by rw [HX.out, endX, if_pos HN.out.symm])
      have HYY := Lib.hid (show val ((l.drop 120).take 3) = Y by rw [HY.out, endY, if_pos HN.out.symm])
      clear hbx hr3 hr4 hnc hcm
      go_wp2_with fail
      refine wp_region_held_drew (S := (fun _ => True)) (by kernel_rfl) (by first | trivial) (fun hHeld => ?_)
      clear hHeld
      refine wpAnyH_take (i := 0) (oi := { dst := some 35, op := Go.Op.move (Go.Operand.tmp 0), type := 30, pos := "law.go:61", after := #[], guard := none }) (v := ?_) rfl (by kernel_rfl) (by kernel_rfl) (by kernel_rfl) (fun _ _ _ h => h) (Or.inl ⟨by rfl, ?_⟩) (by first | trivial) ?_
      rotate_left
      · (intro w hSw; obtain _ := hSw; go_simp <;> with_reducible rfl)
      simp only [Act.put, List.setIfInBounds_toArray, List.set_cons_zero, List.set_cons_succ]
      refine wpAnyH_take (i := 1) (oi := { dst := some 36, op := Go.Op.slice 30 (Go.Operand.tmp 35) none (some (Go.Operand.const (Go.Value.int Go.IntKind.i64 3))) none, type := 30, pos := "law.go:61", after := #[{ on := 0, ground := Go.Ground.data }], guard := none }) (v := ?_) rfl (by kernel_rfl) (by kernel_rfl) (by kernel_rfl) (fun _ _ _ h => h) (Or.inl ⟨by rfl, ?_⟩) (by first | trivial) ?_
      rotate_left
      · (intro w hSw; obtain _ := hSw; go_simp <;> with_reducible rfl)
      simp only [Act.put, List.setIfInBounds_toArray, List.set_cons_zero, List.set_cons_succ]
      refine wpAnyH_take (i := 3) (oi := { dst := some 38, op := Go.Op.move (Go.Operand.tmp 0), type := 30, pos := "law.go:61", after := #[], guard := none }) (v := ?_) rfl (by kernel_rfl) (by kernel_rfl) (by kernel_rfl) (fun _ _ _ h => h) (Or.inl ⟨by rfl, ?_⟩) (by first | trivial) ?_
      rotate_left
      · (intro w hSw; obtain _ := hSw; go_simp <;> with_reducible rfl)
      simp only [Act.put, List.setIfInBounds_toArray, List.set_cons_zero, List.set_cons_succ]
      refine wpAnyH_take (i := 4) (oi := { dst := some 39, op := Go.Op.slice 30 (Go.Operand.tmp 38) (some (Go.Operand.const (Go.Value.int Go.IntKind.i64 120))) (some (Go.Operand.const (Go.Value.int Go.IntKind.i64 123))) none, type := 30, pos := "law.go:61", after := #[{ on := 3, ground := Go.Ground.data }], guard := none }) (v := ?_) rfl (by kernel_rfl) (by kernel_rfl) (by kernel_rfl) (fun _ _ _ h => h) (Or.inl ⟨by rfl, ?_⟩) (by first | trivial) ?_
      rotate_left
      · (intro w hSw; obtain _ := hSw; go_simp <;> with_reducible rfl)
      simp only [Act.put, List.setIfInBounds_toArray, List.set_cons_zero, List.set_cons_succ]
      refine wpAnyH_ready (rs := [2]) (by kernel_rfl) (by simp) ?_
      refine AllReadyH.cons (o := { dst := some 37, op := Go.Op.call { callee := Go.Callee.value (Go.Operand.func 42), args := #[Go.Operand.tmp 36], argTypes := #[30] }, type := 55, pos := "law.go:61", after := #[{ on := 1, ground := Go.Ground.data }], guard := none }) rfl (fun K hK => ?_) AllReadyH.nil
      go_simp
      refine (rvalue_any _ 3 _ _ HR3'.out.drew (by decide) L3.out).mono ?_
      rintro x w7 ⟨rfl, rfl⟩
      rw [HXX.out]
      go_wp2_with fail
      refine hK.out _ _ (by first | trivial) (fun hHeld => ?_)
      clear hK K hHeld
      try simp only [Act.put, List.setIfInBounds_toArray, List.set_cons_zero, List.set_cons_succ]
      refine wpAnyH_ready (rs := [5]) (by kernel_rfl) (by simp) ?_
      refine AllReadyH.cons (o := { dst := some 40, op := Go.Op.call { callee := Go.Callee.value (Go.Operand.func 42), args := #[Go.Operand.tmp 39], argTypes := #[30] }, type := 55, pos := "law.go:61", after := #[{ on := 4, ground := Go.Ground.data }, { on := 2, ground := Go.Ground.chain }], guard := none }) rfl (fun K hK => ?_) AllReadyH.nil
      go_simp
      refine (rvalue_any _ 3 _ _ HR4'.out.drew (by decide) L4.out).mono ?_
      rintro x w7 ⟨rfl, rfl⟩
      rw [HYY.out]
      go_wp2_with fail
      refine hK.out _ _ (by first | trivial) (fun hHeld => ?_)
      clear hK K hHeld
      try simp only [Act.put, List.setIfInBounds_toArray, List.set_cons_zero, List.set_cons_succ]
      refine wpAnyH_take (i := 6) (oi := { dst := some 10, op := Go.Op.assign (Go.Operand.tmp 37), type := 55, pos := "law.go:61", after := #[{ on := 2, ground := Go.Ground.data }, { on := 5, ground := Go.Ground.chain }, { on := 0, ground := Go.Ground.phase }, { on := 1, ground := Go.Ground.phase }, { on := 2, ground := Go.Ground.phase }, { on := 3, ground := Go.Ground.textOnly Go.Departure.lateStores }, { on := 4, ground := Go.Ground.textOnly Go.Departure.lateStoresUnsure }, { on := 5, ground := Go.Ground.textOnly Go.Departure.lateStoresUnsure }], guard := none }) (v := ?_) rfl (by kernel_rfl) (by kernel_rfl) (by kernel_rfl) (fun _ _ _ h => h) (Or.inl ⟨by rfl, ?_⟩) (by first | trivial) ?_
      rotate_left
      · (intro w hSw; obtain _ := hSw; go_simp <;> with_reducible rfl)
      simp only [Act.put, List.setIfInBounds_toArray, List.set_cons_zero, List.set_cons_succ]
      refine wpAnyH_take (i := 7) (oi := { dst := some 11, op := Go.Op.assign (Go.Operand.tmp 40), type := 55, pos := "law.go:61", after := #[{ on := 5, ground := Go.Ground.data }, { on := 6, ground := Go.Ground.chain }, { on := 0, ground := Go.Ground.phase }, { on := 1, ground := Go.Ground.phase }, { on := 2, ground := Go.Ground.phase }, { on := 3, ground := Go.Ground.phase }, { on := 4, ground := Go.Ground.phase }, { on := 5, ground := Go.Ground.phase }, { on := 6, ground := Go.Ground.phase }], guard := none }) (v := ?_) rfl (by kernel_rfl) (by kernel_rfl) (by kernel_rfl) (fun _ _ _ h => h) (Or.inl ⟨by rfl, ?_⟩) (by first | trivial) ?_
      rotate_left
      · (intro w hSw; obtain _ := hSw; go_simp <;> with_reducible rfl)
      simp only [Act.put, List.setIfInBounds_toArray, List.set_cons_zero, List.set_cons_succ]
      refine wpAnyH_done (by kernel_rfl) ?_ _
      go_wp2_with fail
      go_meet
      exact ⟨by rw [← HX.out], by rw [← HY.out], 1, rfl⟩
    · have hb : ((n : Int) == 128) = false := by rw [beq_eq_false_iff_ne]; omega
      have hx0 : X = 0 := by rw [HX.out, endX, if_neg (by rw [← HN.out]; exact h128)]
      have hy0 : Y = 0 := by rw [HY.out, endY, if_neg (by rw [← HN.out]; exact h128)]
      have HX0 := Lib.hid hx0
      have HY0 := Lib.hid hy0
      clear h128 hx0 hy0
      go_wp2_with fail
      go_meet
      exact ⟨by rw [← HX.out, HX0.out]; rfl, by rw [← HY.out, HY0.out]; rfl, 0, rfl⟩
  case rest =>
  obtain ⟨rfl, rfl, n7, hw7⟩ := hcut
  rw [← HX.out, ← HY.out]
  have hea : UEnv W Fo q p pe pn pf pg a1 a2 (.slice A2 n c2) m k1 k2 D wc := by rw [hw7]; exact E6.out.step ((Adv.refl Fo w6).drewN n7)
  have hoa : Sl wc Fo 5 1 (.slice A2 n c2) n (l.map u8) := by rw [hw7]; exact HO6.out.far ((Adv.refl Nul w6).drewN n7) (fun _ h _ => h)
  have EA := Lib.hid (hea.step ((Adv.refl Fo wc).drew))
  have HOA := Lib.hid (hoa.drew)
  have KA := Lib.hid (five2 EA.out.bq EA.out.bp)
  clear hw7 hea hoa
  go_wp2_with fail
  refine wp_region_held_drew (S := (fun w' => w'.cell? ⟨q, 0, none⟩ = some (.int .u64 (pe : Int)) ∧ w'.cell? ⟨q, 1, none⟩ = some (.int .u64 (pn : Int)) ∧ w'.cell? ⟨q, 2, none⟩ = some (.bool pf) ∧ w'.cell? ⟨q, 3, none⟩ = some (.bool pg) ∧ w'.cell? ⟨q, 4, none⟩ = some (.slice a1 m k1) ∧ w'.cell? ⟨p, 0, none⟩ = some (.int .u64 (pe : Int)) ∧ w'.cell? ⟨p, 1, none⟩ = some (.int .u64 (pn : Int)) ∧ w'.cell? ⟨p, 2, none⟩ = some (.bool pf) ∧ w'.cell? ⟨p, 3, none⟩ = some (.bool pg) ∧ w'.cell? ⟨p, 4, none⟩ = some (.slice a2 m k2))) (by kernel_rfl) (by first | with_reducible exact KD.out | with_reducible exact KC.out | with_reducible exact KB.out | with_reducible exact KA.out) (fun hHeld => ?_)
  clear hHeld
  refine wpAnyH_take (i := 0) (oi := { dst := some 41, op := Go.Op.load 62 (Go.Operand.tmp 4), type := 62, pos := "law.go:63", after := #[], guard := none }) (v := ?_) rfl (by kernel_rfl) (by kernel_rfl) (by kernel_rfl) (fun _ _ _ h => h) (Or.inl ⟨by rfl, ?_⟩) (by first | with_reducible exact KD.out | with_reducible exact KC.out | with_reducible exact KB.out | with_reducible exact KA.out) ?_
  rotate_left
  · (intro w hSw; obtain ⟨s0, s1, s2, s3, s4, s5, s6, s7, s8, s9⟩ := hSw; go_simp <;> with_reducible rfl)
  simp only [Act.put, List.setIfInBounds_toArray, List.set_cons_zero, List.set_cons_succ]
  refine wpAnyH_take (i := 2) (oi := { dst := some 43, op := Go.Op.load 61 (Go.Operand.tmp 6), type := 61, pos := "law.go:63", after := #[], guard := none }) (v := ?_) rfl (by kernel_rfl) (by kernel_rfl) (by kernel_rfl) (fun _ _ _ h => h) (Or.inl ⟨by rfl, ?_⟩) (by first | with_reducible exact KD.out | with_reducible exact KC.out | with_reducible exact KB.out | with_reducible exact KA.out) ?_
  rotate_left
  · (intro w hSw; obtain ⟨s0, s1, s2, s3, s4, s5, s6, s7, s8, s9⟩ := hSw; go_simp <;> with_reducible rfl)
  simp only [Act.put, List.setIfInBounds_toArray, List.set_cons_zero, List.set_cons_succ]
  refine wpAnyH_ready (rs := [1]) (by kernel_rfl) (by simp) ?_
  refine AllReadyH.cons (o := { dst := some 42, op := Go.Op.call { callee := Go.Callee.value (Go.Operand.func 37), args := #[Go.Operand.tmp 41], argTypes := #[62] }, type := 61, pos := "law.go:63", after := #[{ on := 0, ground := Go.Ground.data }], guard := none }) rfl (fun K hK => ?_) AllReadyH.nil
  go_simp
  refine (plain_any _ _ _ _ _ _ _ _).mono ?_
  rintro x w8 ⟨rfl, t8⟩
  have HO8 := Lib.hid (HOA.out.far t8 (fun _ h _ => h))
  have E8 := Lib.hid (EA.out.step (t8.weak (fun _ h => h.elim)))
  have KB := Lib.hid (five2 E8.out.bq E8.out.bp)
  clear t8
  go_wp2_with fail
  refine hK.out _ _ (by first | with_reducible exact KD.out | with_reducible exact KC.out | with_reducible exact KB.out | with_reducible exact KA.out) (fun hHeld => ?_)
  clear hK K hHeld
  try simp only [Act.put, List.setIfInBounds_toArray, List.set_cons_zero, List.set_cons_succ]
  refine wpAnyH_ready (rs := [3]) (by kernel_rfl) (by simp) ?_
  refine AllReadyH.cons (o := { dst := some 44, op := Go.Op.call { callee := Go.Callee.value (Go.Operand.func 39), args := #[Go.Operand.tmp 42, Go.Operand.tmp 43], argTypes := #[61, 61] }, type := 4, pos := "law.go:63", after := #[{ on := 1, ground := Go.Ground.data }, { on := 2, ground := Go.Ground.data }, { on := 1, ground := Go.Ground.chain }], guard := none }) rfl (fun K hK => ?_) AllReadyH.nil
  go_simp
  refine (rsame_eq _ _ _ _ _ _ m D _ E8.out.r1 E8.out.r2).mono ?_
  rintro x w9 ⟨rfl, t9⟩
  have HO9 := Lib.hid (HO8.out.far t9 (fun _ h _ => h))
  have E9 := Lib.hid (E8.out.step (t9.weak (fun _ h => h.elim)))
  have KC := Lib.hid (five2 E9.out.bq E9.out.bp)
  clear t9
  go_wp2_with fail
  refine hK.out _ _ (by first | with_reducible exact KD.out | with_reducible exact KC.out | with_reducible exact KB.out | with_reducible exact KA.out) (fun hHeld => ?_)
  clear hK K hHeld
  try simp only [Act.put, List.setIfInBounds_toArray, List.set_cons_zero, List.set_cons_succ]
  refine wpAnyH_take (i := 4) (oi := { dst := some 45, op := Go.Op.unOp Go.UnOp.not 4 (Go.Operand.tmp 44), type := 4, pos := "law.go:63", after := #[{ on := 3, ground := Go.Ground.data }], guard := none }) (v := ?_) rfl (by kernel_rfl) (by kernel_rfl) (by kernel_rfl) (fun _ _ _ h => h) (Or.inl ⟨by rfl, ?_⟩) (by first | with_reducible exact KD.out | with_reducible exact KC.out | with_reducible exact KB.out | with_reducible exact KA.out) ?_
  rotate_left
  · (intro w hSw; obtain ⟨s0, s1, s2, s3, s4, s5, s6, s7, s8, s9⟩ := hSw; go_simp <;> with_reducible rfl)
  simp only [Act.put, List.setIfInBounds_toArray, List.set_cons_zero, List.set_cons_succ]
  refine wpAnyH_take (i := 5) (oi := { dst := some 46, op := Go.Op.move (Go.Operand.tmp 45), type := 4, pos := "law.go:63", after := #[{ on := 4, ground := Go.Ground.data }, { on := 3, ground := Go.Ground.chain }], guard := none }) (v := ?_) rfl (by kernel_rfl) (by kernel_rfl) (by kernel_rfl) (fun _ _ _ h => h) (Or.inl ⟨by rfl, ?_⟩) (by first | with_reducible exact KD.out | with_reducible exact KC.out | with_reducible exact KB.out | with_reducible exact KA.out) ?_
  rotate_left
  · (intro w hSw; obtain ⟨s0, s1, s2, s3, s4, s5, s6, s7, s8, s9⟩ := hSw; go_simp <;> with_reducible rfl)
  simp only [Act.put, List.setIfInBounds_toArray, List.set_cons_zero, List.set_cons_succ]
  refine wpAnyH_take (i := 6) (oi := { dst := some 47, op := Go.Op.move (Go.Operand.tmp 5), type := 24, pos := "law.go:63", after := #[{ on := 5, ground := Go.Ground.guard }], guard := some (5, false) }) (v := ?_) rfl (by kernel_rfl) (by kernel_rfl) (by kernel_rfl) (fun _ _ _ h => h) (Or.inl ⟨by rfl, ?_⟩) (by first | with_reducible exact KD.out | with_reducible exact KC.out | with_reducible exact KB.out | with_reducible exact KA.out) ?_
  rotate_left
  · (intro w hSw; obtain ⟨s0, s1, s2, s3, s4, s5, s6, s7, s8, s9⟩ := hSw; go_simp <;> with_reducible rfl)
  simp only [Act.put, List.setIfInBounds_toArray, List.set_cons_zero, List.set_cons_succ]
  refine wpAnyH_take (i := 7) (oi := { dst := some 48, op := Go.Op.move (Go.Operand.tmp 7), type := 3, pos := "law.go:63", after := #[{ on := 5, ground := Go.Ground.guard }], guard := some (5, false) }) (v := ?_) rfl (by kernel_rfl) (by kernel_rfl) (by kernel_rfl) (fun _ _ _ h => h) (Or.inl ⟨by rfl, ?_⟩) (by first | with_reducible exact KD.out | with_reducible exact KC.out | with_reducible exact KB.out | with_reducible exact KA.out) ?_
  rotate_left
  · (intro w hSw; obtain ⟨s0, s1, s2, s3, s4, s5, s6, s7, s8, s9⟩ := hSw; go_simp <;> with_reducible rfl)
  simp only [Act.put, List.setIfInBounds_toArray, List.set_cons_zero, List.set_cons_succ]
  refine wpAnyH_take (i := 8) (oi := { dst := some 49, op := Go.Op.binOp Go.BinOp.neq 3 (Go.Operand.tmp 47) (Go.Operand.tmp 48) 3, type := 4, pos := "law.go:63", after := #[{ on := 6, ground := Go.Ground.data }, { on := 7, ground := Go.Ground.data }, { on := 5, ground := Go.Ground.guard }], guard := some (5, false) }) (v := ?_) rfl (by kernel_rfl) (by kernel_rfl) (by kernel_rfl) (fun _ _ _ h => h) (Or.inl ⟨by rfl, ?_⟩) (by first | with_reducible exact KD.out | with_reducible exact KC.out | with_reducible exact KB.out | with_reducible exact KA.out) ?_
  rotate_left
  · (intro w hSw; obtain ⟨s0, s1, s2, s3, s4, s5, s6, s7, s8, s9⟩ := hSw; go_simp <;> with_reducible rfl)
  simp only [Act.put, List.setIfInBounds_toArray, List.set_cons_zero, List.set_cons_succ]
  refine wpAnyH_take (i := 9) (oi := { dst := some 50, op := Go.Op.pick (Go.Operand.tmp 46) (Go.Operand.const (Go.Value.bool true)) (Go.Operand.tmp 49), type := 4, pos := "law.go:63", after := #[{ on := 5, ground := Go.Ground.data }, { on := 8, ground := Go.Ground.data }], guard := none }) (v := ?_) rfl (by kernel_rfl) (by kernel_rfl) (by kernel_rfl) (fun _ _ _ h => h) (Or.inl ⟨by rfl, ?_⟩) (by first | with_reducible exact KD.out | with_reducible exact KC.out | with_reducible exact KB.out | with_reducible exact KA.out) ?_
  rotate_left
  · (intro w hSw; obtain ⟨s0, s1, s2, s3, s4, s5, s6, s7, s8, s9⟩ := hSw; go_simp <;> with_reducible rfl)
  simp only [Act.put, List.setIfInBounds_toArray, List.set_cons_zero, List.set_cons_succ]
  refine wpAnyH_take (i := 10) (oi := { dst := some 51, op := Go.Op.move (Go.Operand.tmp 50), type := 4, pos := "law.go:63", after := #[{ on := 9, ground := Go.Ground.data }, { on := 5, ground := Go.Ground.chain }], guard := none }) (v := ?_) rfl (by kernel_rfl) (by kernel_rfl) (by kernel_rfl) (fun _ _ _ h => h) (Or.inl ⟨by rfl, ?_⟩) (by first | with_reducible exact KD.out | with_reducible exact KC.out | with_reducible exact KB.out | with_reducible exact KA.out) ?_
  rotate_left
  · (intro w hSw; obtain ⟨s0, s1, s2, s3, s4, s5, s6, s7, s8, s9⟩ := hSw; go_simp <;> with_reducible rfl)
  simp only [Act.put, List.setIfInBounds_toArray, List.set_cons_zero, List.set_cons_succ]
  refine wpAnyH_take (i := 11) (oi := { dst := some 52, op := Go.Op.move (Go.Operand.tmp 3), type := 30, pos := "law.go:63", after := #[{ on := 10, ground := Go.Ground.guard }], guard := some (10, false) }) (v := ?_) rfl (by kernel_rfl) (by kernel_rfl) (by kernel_rfl) (fun _ _ _ h => h) (Or.inl ⟨by rfl, ?_⟩) (by first | with_reducible exact KD.out | with_reducible exact KC.out | with_reducible exact KB.out | with_reducible exact KA.out) ?_
  rotate_left
  · (intro w hSw; obtain ⟨s0, s1, s2, s3, s4, s5, s6, s7, s8, s9⟩ := hSw; go_simp <;> with_reducible rfl)
  simp only [Act.put, List.setIfInBounds_toArray, List.set_cons_zero, List.set_cons_succ]
  refine wpAnyH_take (i := 12) (oi := { dst := some 53, op := Go.Op.move (Go.Operand.tmp 0), type := 30, pos := "law.go:63", after := #[{ on := 10, ground := Go.Ground.guard }], guard := some (10, false) }) (v := ?_) rfl (by kernel_rfl) (by kernel_rfl) (by kernel_rfl) (fun _ _ _ h => h) (Or.inl ⟨by rfl, ?_⟩) (by first | with_reducible exact KD.out | with_reducible exact KC.out | with_reducible exact KB.out | with_reducible exact KA.out) ?_
  rotate_left
  · (intro w hSw; obtain ⟨s0, s1, s2, s3, s4, s5, s6, s7, s8, s9⟩ := hSw; go_simp <;> with_reducible rfl)
  simp only [Act.put, List.setIfInBounds_toArray, List.set_cons_zero, List.set_cons_succ]
  refine wpAnyH_ready (rs := [13]) (by kernel_rfl) (by simp) ?_
  refine AllReadyH.cons (o := { dst := some 54, op := Go.Op.call { callee := Go.Callee.value (Go.Operand.func 21), args := #[Go.Operand.tmp 52, Go.Operand.tmp 53], argTypes := #[30, 30] }, type := 4, pos := "law.go:63", after := #[{ on := 11, ground := Go.Ground.data }, { on := 12, ground := Go.Ground.data }, { on := 10, ground := Go.Ground.chain }, { on := 10, ground := Go.Ground.guard }], guard := some (10, false) }) rfl (fun K hK => ?_) AllReadyH.nil
  go_simp
  refine (same_any _ _ _ _ l l _ HO9.out.rd (HIB.out.far E9.out.a).rd).mono ?_
  rintro x w10 ⟨rfl, n10, hw10⟩
  rw [decide_eq_true (rfl : l = l)]
  have E10 := Lib.hid (show UEnv W Fo q p pe pn pf pg a1 a2 (.slice A2 n c2) m k1 k2 D w10 by rw [hw10]; exact E9.out.step ((Adv.refl Fo w9).drewN n10))
  have KD := Lib.hid (five2 E10.out.bq E10.out.bp)
  have HO10 := Lib.hid (HO9.out.far ((Adv.refl Nul w9).drewN n10) (fun _ h _ => h))
  rw [← hw10] at HO10
  clear hw10
  go_wp2_with fail
  refine hK.out _ _ (by first | with_reducible exact KD.out | with_reducible exact KC.out | with_reducible exact KB.out | with_reducible exact KA.out) (fun hHeld => ?_)
  clear hK K hHeld
  try simp only [Act.put, List.setIfInBounds_toArray, List.set_cons_zero, List.set_cons_succ]
  refine wpAnyH_take (i := 14) (oi := { dst := some 55, op := Go.Op.unOp Go.UnOp.not 4 (Go.Operand.tmp 54), type := 4, pos := "law.go:63", after := #[{ on := 13, ground := Go.Ground.data }, { on := 10, ground := Go.Ground.guard }], guard := some (10, false) }) (v := ?_) rfl (by kernel_rfl) (by kernel_rfl) (by kernel_rfl) (fun _ _ _ h => h) (Or.inl ⟨by rfl, ?_⟩) (by first | with_reducible exact KD.out | with_reducible exact KC.out | with_reducible exact KB.out | with_reducible exact KA.out) ?_
  rotate_left
  · (intro w hSw; obtain ⟨s0, s1, s2, s3, s4, s5, s6, s7, s8, s9⟩ := hSw; go_simp <;> with_reducible rfl)
  simp only [Act.put, List.setIfInBounds_toArray, List.set_cons_zero, List.set_cons_succ]
  refine wpAnyH_take (i := 15) (oi := { dst := some 56, op := Go.Op.pick (Go.Operand.tmp 51) (Go.Operand.const (Go.Value.bool true)) (Go.Operand.tmp 55), type := 4, pos := "law.go:63", after := #[{ on := 10, ground := Go.Ground.data }, { on := 14, ground := Go.Ground.data }], guard := none }) (v := ?_) rfl (by kernel_rfl) (by kernel_rfl) (by kernel_rfl) (fun _ _ _ h => h) (Or.inl ⟨by rfl, ?_⟩) (by first | with_reducible exact KD.out | with_reducible exact KC.out | with_reducible exact KB.out | with_reducible exact KA.out) ?_
  rotate_left
  · (intro w hSw; obtain ⟨s0, s1, s2, s3, s4, s5, s6, s7, s8, s9⟩ := hSw; go_simp <;> with_reducible rfl)
  simp only [Act.put, List.setIfInBounds_toArray, List.set_cons_zero, List.set_cons_succ]
  refine wpAnyH_take (i := 16) (oi := { dst := some 57, op := Go.Op.move (Go.Operand.tmp 56), type := 4, pos := "law.go:63", after := #[{ on := 15, ground := Go.Ground.data }, { on := 13, ground := Go.Ground.chain }], guard := none }) (v := ?_) rfl (by kernel_rfl) (by kernel_rfl) (by kernel_rfl) (fun _ _ _ h => h) (Or.inl ⟨by rfl, ?_⟩) (by first | with_reducible exact KD.out | with_reducible exact KC.out | with_reducible exact KB.out | with_reducible exact KA.out) ?_
  rotate_left
  · (intro w hSw; obtain ⟨s0, s1, s2, s3, s4, s5, s6, s7, s8, s9⟩ := hSw; go_simp <;> with_reducible rfl)
  simp only [Act.put, List.setIfInBounds_toArray, List.set_cons_zero, List.set_cons_succ]
  refine wpAnyH_take (i := 17) (oi := { dst := some 58, op := Go.Op.move (Go.Operand.tmp 8), type := 55, pos := "law.go:63", after := #[{ on := 16, ground := Go.Ground.guard }], guard := some (16, false) }) (v := ?_) rfl (by kernel_rfl) (by kernel_rfl) (by kernel_rfl) (fun _ _ _ h => h) (Or.inl ⟨by rfl, ?_⟩) (by first | with_reducible exact KD.out | with_reducible exact KC.out | with_reducible exact KB.out | with_reducible exact KA.out) ?_
  rotate_left
  · (intro w hSw; obtain ⟨s0, s1, s2, s3, s4, s5, s6, s7, s8, s9⟩ := hSw; go_simp <;> with_reducible rfl)
  simp only [Act.put, List.setIfInBounds_toArray, List.set_cons_zero, List.set_cons_succ]
  refine wpAnyH_take (i := 18) (oi := { dst := some 59, op := Go.Op.move (Go.Operand.tmp 10), type := 55, pos := "law.go:63", after := #[{ on := 16, ground := Go.Ground.guard }], guard := some (16, false) }) (v := ?_) rfl (by kernel_rfl) (by kernel_rfl) (by kernel_rfl) (fun _ _ _ h => h) (Or.inl ⟨by rfl, ?_⟩) (by first | with_reducible exact KD.out | with_reducible exact KC.out | with_reducible exact KB.out | with_reducible exact KA.out) ?_
  rotate_left
  · (intro w hSw; obtain ⟨s0, s1, s2, s3, s4, s5, s6, s7, s8, s9⟩ := hSw; go_simp <;> with_reducible rfl)
  simp only [Act.put, List.setIfInBounds_toArray, List.set_cons_zero, List.set_cons_succ]
  refine wpAnyH_take (i := 19) (oi := { dst := some 60, op := Go.Op.binOp Go.BinOp.neq 55 (Go.Operand.tmp 58) (Go.Operand.tmp 59) 55, type := 4, pos := "law.go:63", after := #[{ on := 17, ground := Go.Ground.data }, { on := 18, ground := Go.Ground.data }, { on := 16, ground := Go.Ground.guard }], guard := some (16, false) }) (v := ?_) rfl (by kernel_rfl) (by kernel_rfl) (by kernel_rfl) (fun _ _ _ h => h) (Or.inl ⟨by rfl, ?_⟩) (by first | with_reducible exact KD.out | with_reducible exact KC.out | with_reducible exact KB.out | with_reducible exact KA.out) ?_
  rotate_left
  · (intro w hSw; obtain ⟨s0, s1, s2, s3, s4, s5, s6, s7, s8, s9⟩ := hSw; go_simp <;> with_reducible rfl)
  simp only [Act.put, List.setIfInBounds_toArray, List.set_cons_zero, List.set_cons_succ]
  refine wpAnyH_take (i := 20) (oi := { dst := some 61, op := Go.Op.pick (Go.Operand.tmp 57) (Go.Operand.const (Go.Value.bool true)) (Go.Operand.tmp 60), type := 4, pos := "law.go:63", after := #[{ on := 16, ground := Go.Ground.data }, { on := 19, ground := Go.Ground.data }], guard := none }) (v := ?_) rfl (by kernel_rfl) (by kernel_rfl) (by kernel_rfl) (fun _ _ _ h => h) (Or.inl ⟨by rfl, ?_⟩) (by first | with_reducible exact KD.out | with_reducible exact KC.out | with_reducible exact KB.out | with_reducible exact KA.out) ?_
  rotate_left
  · (intro w hSw; obtain ⟨s0, s1, s2, s3, s4, s5, s6, s7, s8, s9⟩ := hSw; go_simp <;> with_reducible rfl)
  simp only [Act.put, List.setIfInBounds_toArray, List.set_cons_zero, List.set_cons_succ]
  refine wpAnyH_take (i := 21) (oi := { dst := some 62, op := Go.Op.move (Go.Operand.tmp 61), type := 4, pos := "law.go:63", after := #[{ on := 20, ground := Go.Ground.data }, { on := 16, ground := Go.Ground.chain }], guard := none }) (v := ?_) rfl (by kernel_rfl) (by kernel_rfl) (by kernel_rfl) (fun _ _ _ h => h) (Or.inl ⟨by rfl, ?_⟩) (by first | with_reducible exact KD.out | with_reducible exact KC.out | with_reducible exact KB.out | with_reducible exact KA.out) ?_
  rotate_left
  · (intro w hSw; obtain ⟨s0, s1, s2, s3, s4, s5, s6, s7, s8, s9⟩ := hSw; go_simp <;> with_reducible rfl)
  simp only [Act.put, List.setIfInBounds_toArray, List.set_cons_zero, List.set_cons_succ]
  refine wpAnyH_take (i := 22) (oi := { dst := some 63, op := Go.Op.move (Go.Operand.tmp 9), type := 55, pos := "law.go:63", after := #[{ on := 21, ground := Go.Ground.guard }], guard := some (21, false) }) (v := ?_) rfl (by kernel_rfl) (by kernel_rfl) (by kernel_rfl) (fun _ _ _ h => h) (Or.inl ⟨by rfl, ?_⟩) (by first | with_reducible exact KD.out | with_reducible exact KC.out | with_reducible exact KB.out | with_reducible exact KA.out) ?_
  rotate_left
  · (intro w hSw; obtain ⟨s0, s1, s2, s3, s4, s5, s6, s7, s8, s9⟩ := hSw; go_simp <;> with_reducible rfl)
  simp only [Act.put, List.setIfInBounds_toArray, List.set_cons_zero, List.set_cons_succ]
  refine wpAnyH_take (i := 23) (oi := { dst := some 64, op := Go.Op.move (Go.Operand.tmp 11), type := 55, pos := "law.go:63", after := #[{ on := 21, ground := Go.Ground.guard }], guard := some (21, false) }) (v := ?_) rfl (by kernel_rfl) (by kernel_rfl) (by kernel_rfl) (fun _ _ _ h => h) (Or.inl ⟨by rfl, ?_⟩) (by first | with_reducible exact KD.out | with_reducible exact KC.out | with_reducible exact KB.out | with_reducible exact KA.out) ?_
  rotate_left
  · (intro w hSw; obtain ⟨s0, s1, s2, s3, s4, s5, s6, s7, s8, s9⟩ := hSw; go_simp <;> with_reducible rfl)
  simp only [Act.put, List.setIfInBounds_toArray, List.set_cons_zero, List.set_cons_succ]
  refine wpAnyH_take (i := 24) (oi := { dst := some 65, op := Go.Op.binOp Go.BinOp.neq 55 (Go.Operand.tmp 63) (Go.Operand.tmp 64) 55, type := 4, pos := "law.go:63", after := #[{ on := 22, ground := Go.Ground.data }, { on := 23, ground := Go.Ground.data }, { on := 21, ground := Go.Ground.guard }], guard := some (21, false) }) (v := ?_) rfl (by kernel_rfl) (by kernel_rfl) (by kernel_rfl) (fun _ _ _ h => h) (Or.inl ⟨by rfl, ?_⟩) (by first | with_reducible exact KD.out | with_reducible exact KC.out | with_reducible exact KB.out | with_reducible exact KA.out) ?_
  rotate_left
  · (intro w hSw; obtain ⟨s0, s1, s2, s3, s4, s5, s6, s7, s8, s9⟩ := hSw; go_simp <;> with_reducible rfl)
  simp only [Act.put, List.setIfInBounds_toArray, List.set_cons_zero, List.set_cons_succ]
  refine wpAnyH_take (i := 25) (oi := { dst := some 66, op := Go.Op.pick (Go.Operand.tmp 62) (Go.Operand.const (Go.Value.bool true)) (Go.Operand.tmp 65), type := 4, pos := "law.go:63", after := #[{ on := 21, ground := Go.Ground.data }, { on := 24, ground := Go.Ground.data }], guard := none }) (v := ?_) rfl (by kernel_rfl) (by kernel_rfl) (by kernel_rfl) (fun _ _ _ h => h) (Or.inl ⟨by rfl, ?_⟩) (by first | with_reducible exact KD.out | with_reducible exact KC.out | with_reducible exact KB.out | with_reducible exact KA.out) ?_
  rotate_left
  · (intro w hSw; obtain ⟨s0, s1, s2, s3, s4, s5, s6, s7, s8, s9⟩ := hSw; go_simp <;> with_reducible rfl)
  simp only [Act.put, List.setIfInBounds_toArray, List.set_cons_zero, List.set_cons_succ]
  refine wpAnyH_done (by kernel_rfl) ?_ _
  go_wp2_with fail
  go_loopw [12] (TurnR W Fo q p pe pn pf pg a1 a2 (.slice A2 n c2) m k1 k2 D n) (fun t _ => n - (intOf t).toNat)
  case atStart => exact ⟨0, Nat.zero_le _, rfl, E10.out, l, HO10.out⟩
  case round =>
    obtain ⟨k, hk, rfl, he, ho⟩ := hrel
    by_cases hlt : k < n
    · obtain ⟨g, cc, x, eg, hg, hcell, hfr, hnext⟩ := ho.at_ hlt
      injection eg with eg1 _ eg3
      subst eg1 eg3
      have hki : (k : Int) < (n : Int) := by omega
      have hen := he.step ((Adv.refl Fo wr).setCell (p := ⟨g, k, none⟩) (.inl hg) (.int .u8 (((x + 1) % 256 : Nat) : Int)))
      have HEN := Lib.hid hen
      have HNX := Lib.hid hnext
      have HLT := Lib.hid hlt
      clear he ho hen hnext hk hlt
      go_wp2_with fail
      have hlt := HLT.out
      have hen := HEN.out
      have hnx := HNX.out
      rw [← wrap_next] at hen hnx
      refine ⟨⟨k + 1, by omega, by go_num, ?_, ?_⟩, by simp [intOf]; omega⟩
      · first | exact hen | (simpa [IntKind.wrap_u8] using hen)
      · first | exact hnx | (simpa [IntKind.wrap_u8] using hnx)
    · obtain rfl : k = n := by omega
      obtain ⟨l', hs'⟩ := ho
      have EA := Lib.hid (he.step ((Adv.refl Fo wr).drew))
      have HOA := Lib.hid hs'.drew
      have KA := Lib.hid (five2 EA.out.bq EA.out.bp)
      clear he hs' hlt hk
      go_wp2_with fail
      refine wp_region_held_drew (S := (fun w' => w'.cell? ⟨q, 0, none⟩ = some (.int .u64 (pe : Int)) ∧ w'.cell? ⟨q, 1, none⟩ = some (.int .u64 (pn : Int)) ∧ w'.cell? ⟨q, 2, none⟩ = some (.bool pf) ∧ w'.cell? ⟨q, 3, none⟩ = some (.bool pg) ∧ w'.cell? ⟨q, 4, none⟩ = some (.slice a1 m k1) ∧ w'.cell? ⟨p, 0, none⟩ = some (.int .u64 (pe : Int)) ∧ w'.cell? ⟨p, 1, none⟩ = some (.int .u64 (pn : Int)) ∧ w'.cell? ⟨p, 2, none⟩ = some (.bool pf) ∧ w'.cell? ⟨p, 3, none⟩ = some (.bool pg) ∧ w'.cell? ⟨p, 4, none⟩ = some (.slice a2 m k2))) (by kernel_rfl) (by first | with_reducible exact KD.out | with_reducible exact KC.out | with_reducible exact KB.out | with_reducible exact KA.out) (fun hHeld => ?_)
      clear hHeld
      refine wpAnyH_take (i := 0) (oi := { dst := some 81, op := Go.Op.load 62 (Go.Operand.tmp 4), type := 62, pos := "law.go:69", after := #[], guard := none }) (v := ?_) rfl (by kernel_rfl) (by kernel_rfl) (by kernel_rfl) (fun _ _ _ h => h) (Or.inl ⟨by rfl, ?_⟩) (by first | with_reducible exact KD.out | with_reducible exact KC.out | with_reducible exact KB.out | with_reducible exact KA.out) ?_
      rotate_left
      · (intro w hSw; obtain ⟨s0, s1, s2, s3, s4, s5, s6, s7, s8, s9⟩ := hSw; go_simp <;> with_reducible rfl)
      simp only [Act.put, List.setIfInBounds_toArray, List.set_cons_zero, List.set_cons_succ]
      refine wpAnyH_take (i := 2) (oi := { dst := some 83, op := Go.Op.load 61 (Go.Operand.tmp 6), type := 61, pos := "law.go:69", after := #[], guard := none }) (v := ?_) rfl (by kernel_rfl) (by kernel_rfl) (by kernel_rfl) (fun _ _ _ h => h) (Or.inl ⟨by rfl, ?_⟩) (by first | with_reducible exact KD.out | with_reducible exact KC.out | with_reducible exact KB.out | with_reducible exact KA.out) ?_
      rotate_left
      · (intro w hSw; obtain ⟨s0, s1, s2, s3, s4, s5, s6, s7, s8, s9⟩ := hSw; go_simp <;> with_reducible rfl)
      simp only [Act.put, List.setIfInBounds_toArray, List.set_cons_zero, List.set_cons_succ]
      refine wpAnyH_ready (rs := [1]) (by kernel_rfl) (by simp) ?_
      refine AllReadyH.cons (o := { dst := some 82, op := Go.Op.call { callee := Go.Callee.value (Go.Operand.func 37), args := #[Go.Operand.tmp 81], argTypes := #[62] }, type := 61, pos := "law.go:69", after := #[{ on := 0, ground := Go.Ground.data }], guard := none }) rfl (fun K hK => ?_) AllReadyH.nil
      go_simp
      refine (plain_any _ _ _ _ _ _ _ _).mono ?_
      rintro x w8 ⟨rfl, t8⟩
      have HO8 := Lib.hid (HOA.out.far t8 (fun _ h _ => h))
      have E8 := Lib.hid (EA.out.step (t8.weak (fun _ h => h.elim)))
      have KB := Lib.hid (five2 E8.out.bq E8.out.bp)
      clear t8
      go_wp2_with fail
      refine hK.out _ _ (by first | with_reducible exact KD.out | with_reducible exact KC.out | with_reducible exact KB.out | with_reducible exact KA.out) (fun hHeld => ?_)
      clear hK K hHeld
      try simp only [Act.put, List.setIfInBounds_toArray, List.set_cons_zero, List.set_cons_succ]
      refine wpAnyH_ready (rs := [3]) (by kernel_rfl) (by simp) ?_
      refine AllReadyH.cons (o := { dst := some 84, op := Go.Op.call { callee := Go.Callee.value (Go.Operand.func 39), args := #[Go.Operand.tmp 82, Go.Operand.tmp 83], argTypes := #[61, 61] }, type := 4, pos := "law.go:69", after := #[{ on := 1, ground := Go.Ground.data }, { on := 2, ground := Go.Ground.data }, { on := 1, ground := Go.Ground.chain }], guard := none }) rfl (fun K hK => ?_) AllReadyH.nil
      go_simp
      refine (rsame_eq _ _ _ _ _ _ m D _ E8.out.r1 E8.out.r2).mono ?_
      rintro x w9 ⟨rfl, t9⟩
      have HO9 := Lib.hid (HO8.out.far t9 (fun _ h _ => h))
      have E9 := Lib.hid (E8.out.step (t9.weak (fun _ h => h.elim)))
      have KC := Lib.hid (five2 E9.out.bq E9.out.bp)
      clear t9
      go_wp2_with fail
      refine hK.out _ _ (by first | with_reducible exact KD.out | with_reducible exact KC.out | with_reducible exact KB.out | with_reducible exact KA.out) (fun hHeld => ?_)
      clear hK K hHeld
      try simp only [Act.put, List.setIfInBounds_toArray, List.set_cons_zero, List.set_cons_succ]
      refine wpAnyH_take (i := 4) (oi := { dst := some 85, op := Go.Op.move (Go.Operand.tmp 84), type := 4, pos := "law.go:69", after := #[{ on := 3, ground := Go.Ground.data }, { on := 3, ground := Go.Ground.chain }], guard := none }) (v := ?_) rfl (by kernel_rfl) (by kernel_rfl) (by kernel_rfl) (fun _ _ _ h => h) (Or.inl ⟨by rfl, ?_⟩) (by first | with_reducible exact KD.out | with_reducible exact KC.out | with_reducible exact KB.out | with_reducible exact KA.out) ?_
      rotate_left
      · (intro w hSw; obtain ⟨s0, s1, s2, s3, s4, s5, s6, s7, s8, s9⟩ := hSw; go_simp <;> with_reducible rfl)
      simp only [Act.put, List.setIfInBounds_toArray, List.set_cons_zero, List.set_cons_succ]
      refine wpAnyH_ready (rs := [5]) (by kernel_rfl) (by simp) ?_
      refine AllReadyH.cons (o := { dst := some 86, op := Go.Op.call { callee := Go.Callee.value (Go.Operand.func 33), args := #[], argTypes := #[] }, type := 4, pos := "law.go:69", after := #[{ on := 4, ground := Go.Ground.chain }, { on := 4, ground := Go.Ground.guard }], guard := some (4, true) }) rfl (fun K hK => ?_) AllReadyH.nil
      go_simp
      refine (lp_lives_any _).mono ?_
      rintro x w10 ⟨rfl, hbl⟩
      have E10 := Lib.hid (E9.out.step (Adv.of_below (F := Fo) hbl))
      have KD := Lib.hid (five2 E10.out.bq E10.out.bp)
      clear hbl
      go_wp2_with fail
      refine hK.out _ _ (by first | with_reducible exact KD.out | with_reducible exact KC.out | with_reducible exact KB.out | with_reducible exact KA.out) (fun hHeld => ?_)
      clear hK K hHeld
      try simp only [Act.put, List.setIfInBounds_toArray, List.set_cons_zero, List.set_cons_succ]
      refine wpAnyH_take (i := 6) (oi := { dst := some 87, op := Go.Op.pick (Go.Operand.tmp 85) (Go.Operand.tmp 86) (Go.Operand.const (Go.Value.bool false)), type := 4, pos := "law.go:69", after := #[{ on := 4, ground := Go.Ground.data }, { on := 5, ground := Go.Ground.data }], guard := none }) (v := ?_) rfl (by kernel_rfl) (by kernel_rfl) (by kernel_rfl) (fun _ _ _ h => h) (Or.inl ⟨by rfl, ?_⟩) (by first | with_reducible exact KD.out | with_reducible exact KC.out | with_reducible exact KB.out | with_reducible exact KA.out) ?_
      rotate_left
      · (intro w hSw; obtain ⟨s0, s1, s2, s3, s4, s5, s6, s7, s8, s9⟩ := hSw; go_simp <;> with_reducible rfl)
      simp only [Act.put, List.setIfInBounds_toArray, List.set_cons_zero, List.set_cons_succ]
      refine wpAnyH_take (i := 7) (oi := { dst := some 2, op := Go.Op.assign (Go.Operand.tmp 87), type := 4, pos := "law.go:69", after := #[{ on := 6, ground := Go.Ground.data }, { on := 5, ground := Go.Ground.chain }, { on := 0, ground := Go.Ground.phase }, { on := 1, ground := Go.Ground.phase }, { on := 2, ground := Go.Ground.phase }, { on := 3, ground := Go.Ground.phase }, { on := 4, ground := Go.Ground.phase }, { on := 5, ground := Go.Ground.phase }, { on := 6, ground := Go.Ground.phase }], guard := none }) (v := ?_) rfl (by kernel_rfl) (by kernel_rfl) (by kernel_rfl) (fun _ _ _ h => h) (Or.inl ⟨by rfl, ?_⟩) (by first | with_reducible exact KD.out | with_reducible exact KC.out | with_reducible exact KB.out | with_reducible exact KA.out) ?_
      rotate_left
      · (intro w hSw; obtain ⟨s0, s1, s2, s3, s4, s5, s6, s7, s8, s9⟩ := hSw; go_simp <;> with_reducible rfl)
      simp only [Act.put, List.setIfInBounds_toArray, List.set_cons_zero, List.set_cons_succ]
      refine wpAnyH_done (by kernel_rfl) ?_ _
      go_wp2_with fail
      go_ret
      exact ⟨rfl, E10.out.a⟩
end Go.Proofs.Ytogmgpkopachcaa
