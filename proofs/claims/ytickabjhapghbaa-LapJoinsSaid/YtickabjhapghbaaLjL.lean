/- The statement LapJoins. -/
import Derived.Test.YtickabjhapghbaaLjP
namespace Go.Proofs.Ytickabjhapghbaa
open Go.RowKit

def mineP (qs : List (Pc × Value)) (i : Nat) : Pc := ⟨(qs.getD i (zeroP, undef)).1.e, (qs.getD i (zeroP, undef)).1.c, (qs.getD i (zeroP, undef)).1.f, (qs.getD i (zeroP, undef)).1.g, (qs.getD i (zeroP, undef)).1.d.take 120⟩
section
variable {ta tc : TypeId} {W w w' : World} {P : Nat → Pc} {ka kc : Nat} {va vc : Value} {Fa Fc : Nat → Prop} {qa qc : List (Pc × Value)}
theorem TwoL.old (h : TwoL ta tc W P ka kc va vc Fa Fc qa qc w) : Adv Nul W Nul w := h.adv.sub (fun _ x => x.elim)
theorem TwoL.fresh {F1 : Nat → Prop} {e : TypeId} {size n : Nat} {v : Value} {xs : List Value} (h : TwoL ta tc W P ka kc va vc Fa Fc qa qc w) (ha : Adv Nul w F1 w') (hs : Sl w' F1 e size v n xs) : ∀ g, v.ownBlock = some g → 0 < n → ¬ (Fa g ∨ Fc g) := fun g hg _ hor => by
  have h1 : w.heap.size ≤ g := by
    rcases ha.into g (hs.inF g hg) with h1 | h1
    · exact h1.elim
    · exact h1
  rcases hor with h2 | h2
  · have := h.sa.bd g h2; omega
  · have := h.sc.bd g h2; omega
theorem TwoL.push2 {va' : Value} {a : Option Addr} {q e c d : Nat} {f g : Bool} {l : List Nat} (h : TwoL ta tc W P ka kc va vc Fa Fc qa qc w) (hP : P ka = ⟨e, c, f, g, l⟩) (hd : d = l.length) (hr : Rd w 1 (.slice a d q) d (l.map u8)) (hnF : ∀ g, (Value.slice a d q).ownBlock = some g → 0 < d → ¬ (Fa g ∨ Fc g))
    (hown : w'.ownsRow 0 ta 5 va' (ka + 1) (qa.flatMap rcells ++ [.int .u64 (e : Int), .int .u64 (c : Int), .bool f, .bool g, .slice a d q])) (hg : w.grownBy w' va.ownBlock) (hat : va'.ownBlock = va.ownBlock ∨ va'.ownBlock = some w.heap.size) :
    ∃ Fa' qa', TwoL ta tc W P (ka + 1) kc va' vc Fa' Fc qa' qc w' := by
  subst hd
  exact ⟨_, _, h.push (by rw [hP]; exact hr) (by rw [hP]; exact hnF) (by rw [hP]; exact hown) hg hat⟩
theorem five_at {b o pe pn d q : Nat} {pf pg : Bool} {a : Option Addr} (h : TwoL ta tc W P ka kc va vc Fa Fc qa qc w) (hb : b < W.heap.size) (hc : Cells5 W b o ⟨pe, pn, pf, pg, []⟩ (.slice a d q)) :
    w.cell? ⟨b, o, none⟩ = some (.int .u64 (pe : Int)) ∧ w.cell? ⟨b, o + 1, none⟩ = some (.int .u64 (pn : Int)) ∧ w.cell? ⟨b, o + 2, none⟩ = some (.bool pf) ∧ w.cell? ⟨b, o + 3, none⟩ = some (.bool pg) ∧ w.cell? ⟨b, o + 4, none⟩ = some (.slice a d q) :=
  hc.step hb h.old
end
theorem pnew_at {w : World} {e : Nat} {cI : Int} {f g : Bool} {v : Value} (j : Nat) (u : Value) (h : [Value.int .u64 (e : Int), .int .u64 cI, .bool f, .bool g, v][j]? = some u) :
    (w.alloc (.cells #[.int .u64 (e : Int), .int .u64 cI, .bool f, .bool g, v] 59)).cell? ((⟨w.heap.size, 0, none⟩ : Addr).add j) = some u := by
  rw [add_none, Nat.zero_add, (Blk.new w 59 #[.int .u64 (e : Int), .int .u64 cI, .bool f, .bool g, v]).cell j, List.getElem?_toArray]
  exact h
theorem PsIn.row {W : World} {v : Value} {qs : List (Pc × Value)} (h : PsIn W v qs) {k : Nat} (hk : k < qs.length) : ∃ b o c a d q, v = .slice (some ⟨b, o, none⟩) qs.length c ∧ b < W.heap.size ∧ qs[k].2 = .slice a d q ∧ d = qs[k].1.d.length ∧ Cells5 W b (o + k * 5) ⟨qs[k].1.e, qs[k].1.c, qs[k].1.f, qs[k].1.g, []⟩ (.slice a d q) := by
  obtain ⟨A, c, e0, _, _⟩ := h.rd.form
  have hrd := h.rd
  rw [e0] at hrd
  obtain ⟨b, o, rfl, hb, hc⟩ := hrd.cells (by omega) (by decide)
  obtain ⟨hin, _, _⟩ := h.fit qs[k] (List.getElem_mem _)
  obtain ⟨a, q, e, _, _⟩ := hin.rd.form
  have H : ∀ j u, j < 5 → (rcells qs[k])[j]? = some u → W.cell? ⟨b, o + k * 5 + j, none⟩ = some u := fun j u hj hu => by
    rw [Nat.add_assoc]
    exact hc (k * 5 + j) u (by rw [flat5 rcells (fun _ => rfl) qs k j hk hj]; exact hu)
  exact ⟨b, o, c, a, _, q, e0, hb, e, rfl, H 0 _ (by decide) rfl, H 1 _ (by decide) rfl, H 2 _ (by decide) rfl, H 3 _ (by decide) rfl, by rw [← e]; exact H 4 _ (by decide) rfl⟩
theorem mineP_lt {W : World} {v : Value} {qs : List (Pc × Value)} {P : Nat → Pc} {k : Nat} (hP : P = mineP qs) (h : PsIn W v qs) (hk : k ≤ qs.length) : ∀ p ∈ (List.range k).map P, ∀ x ∈ p.d, x < 256 := by
  intro p hp x hx
  obtain ⟨i, hi, rfl⟩ := List.mem_map.mp hp
  have hi' : i < qs.length := by have := List.mem_range.mp hi; omega
  rw [hP, mineP, List.getD_eq_getElem?_getD, List.getElem?_eq_getElem hi'] at hx
  exact (h.fit _ (List.getElem_mem hi')).1.lt x (List.mem_of_mem_take hx)
theorem mineP_c {W : World} {v : Value} {qs : List (Pc × Value)} {P : Nat → Pc} {k : Nat} (hP : P = mineP qs) (h : PsIn W v qs) (hk : k ≤ qs.length) : ∀ p ∈ (List.range k).map P, p.c < 18446744073709551616 := by
  intro p hp
  obtain ⟨i, hi, rfl⟩ := List.mem_map.mp hp
  have hi' : i < qs.length := by have := List.mem_range.mp hi; omega
  rw [hP, mineP, List.getD_eq_getElem?_getD, List.getElem?_eq_getElem hi']
  exact (h.fit _ (List.getElem_mem hi')).2.2
def BackL (W : World) (P : Nat → Pc) (N : Nat) (t19 t18 : Value) (wr : World) : Prop :=
  ∃ (k : Nat) (aa : Option Addr) (ca : Nat) (Fa : Nat → Prop) (qa : List (Pc × Value)), k ≤ N ∧ t19 = .int .i64 (k : Int) ∧ t18 = .slice aa k ca ∧ TwoL 59 61 W P k 0 (.slice aa k ca) (.slice none 0 0) Fa Nul qa [] wr
def JoinsL (W : World) (P : Nat → Pc) (N : Nat) (t11 t9 t10 : Value) (wr : World) : Prop :=
  ∃ (k : Nat) (aa ac : Option Addr) (ca cc : Nat) (Fa Fc : Nat → Prop) (qa qc : List (Pc × Value)), k ≤ N ∧ k ≤ 6 ∧ t11 = .int .i64 (k : Int) ∧ t9 = .slice aa k ca ∧ t10 = .slice ac k cc ∧ TwoL 59 61 W P k k (.slice aa k ca) (.slice ac k cc) Fa Fc qa qc wr

set_option maxRecDepth 3000 in
set_option maxHeartbeats 6400000 in
theorem joins_walk (W : World) (v0 : Value) (h0 : ∃ qs, PsIn W v0 qs) (x : Int) (hx : (Lit.int .u64 x).wf = true) (y : Int) (hy : (Lit.int .u64 y).wf = true) (v3 : Value) (h3 : ∃ l, In W v3 l) :
    Calls Try.prog 4 #[v0, .int .u64 x, .int .u64 y, v3] W fun e w' => e = .returned (.bool true) ∧ Below W.heap.size W w' := by
  obtain ⟨e, rfl, _⟩ := u64_nat hx
  obtain ⟨c, rfl, _⟩ := u64_nat hy
  obtain ⟨qs, hps⟩ := h0
  obtain ⟨l0, hi⟩ := h3
  obtain ⟨A3, c3, rfl, _, _⟩ := hi.rd.form
  obtain ⟨A0, c0, rfl, _, _⟩ := hps.rd.form
  obtain ⟨N, hN⟩ : ∃ N, N = qs.length := ⟨_, rfl⟩
  obtain ⟨M, hM⟩ : ∃ N, N = l0.length := ⟨_, rfl⟩
  obtain ⟨P, hP⟩ : ∃ P, P = mineP qs := ⟨_, rfl⟩
  have HPS := Lib.hid hps
  have HI := Lib.hid (show In W (.slice A3 M c3) l0 by rw [hM]; exact hi)
  have HN := Lib.hid hN
  have HM := Lib.hid hM
  have HP := Lib.hid hP
  rw [← hN, ← hM]
  clear hps hi hx hy hN hM hP
  go_enter Try.func4, Try.ntmps4
  go_wp2_with fail
  go_loopw [11, 9, 10] (JoinsL W P N) (fun t _ _ _ => 6 - (intOf t).toNat)
  case atStart => exact ⟨0, none, none, 0, 0, Nul, Nul, [], [], Nat.zero_le _, by decide, rfl, rfl, rfl, TwoL.nil _ _ _ _⟩
  case round =>
    obtain ⟨k, aa, ac, ca, cc, Fa, Fc, qa, qc, hkN, hk6, rfl, rfl, rfl, hT⟩ := hrel
    by_cases hlt : k < N ∧ k < 6
    · obtain ⟨hlN, hl6⟩ := hlt
      have hkI : (k : Int) < (N : Int) := by omega
      have hk6I : (k : Int) < 6 := by omega
      have hkq : k < qs.length := by rw [← HN.out]; exact hlN
      obtain ⟨b1, o1, c1, a1, d, q1, e1, hlb, hv, hd, hc5⟩ := HPS.out.row hkq
      injection e1 with e1 e2 e3
      subst e1 e3
      clear e2
      obtain ⟨p, hp⟩ : ∃ p, p = qs[k] := ⟨_, rfl⟩
      have hin := (HPS.out.fit p (by rw [hp]; exact List.getElem_mem _)).1
      have hgp : qs.getD k (zeroP, undef) = p := by rw [hp, List.getD_eq_getElem?_getD, List.getElem?_eq_getElem hkq]; rfl
      rw [← hp] at hc5 hv hd
      obtain ⟨⟨pe, pn, pf, pg, D⟩, vd⟩ := p
      simp only at hv hd hin hc5
      subst hv
      obtain ⟨L, hL⟩ : ∃ L, L = D.take 120 := ⟨_, rfl⟩
      obtain ⟨dm, hdm⟩ : ∃ d, d = L.length := ⟨_, rfl⟩
      have hPk : P k = ⟨pe, pn, pf, pg, L⟩ := by rw [HP.out, mineP, hgp, hL]
      have hmine : ∀ w {va vc Fa Fc qa qc ka kc}, TwoL 59 61 W P ka kc va vc Fa Fc qa qc w → Calls Try.prog 27 #[.agg #[.int .u64 (pe : Int), .int .u64 (pn : Int), .bool pf, .bool pg, .slice a1 d q1]] w (MineR w pe pn pf pg L) := fun w _ _ _ _ _ _ _ _ hw => by
        rw [hL]
        exact mine_any (pe : Int) (pn : Int) pf pg _ D w (hin.far hw.old.toBelow)
      have HMINE := Lib.hid @hmine
      have HLB := Lib.hid hlb
      have HC5 := Lib.hid hc5
      have HT0 := Lib.hid (hT.step (Adv.refl Nul wr).drew)
      have HPK := Lib.hid hPk
      have HDM := Lib.hid hdm
      have HDL := Lib.hid hdm
      have HK1 := Lib.hid (show k + 1 ≤ maxLen by unfold maxLen; omega)
      have HK2 := Lib.hid (show (k + 1) * 48 ≤ 140737488355328 by omega)
      have K0 := Lib.hid (five_at HT0.out hlb hc5)
      have HLN := Lib.hid hlN
      have HL6 := Lib.hid hl6
      clear hkq hlb hd hc5 hp hin hgp hL hdm hPk hmine hT hlN hl6 hkN hk6
      go_wp2_with fail
      refine wp_region_held_drew (S := (fun w' => w'.cell? ⟨b1, o1 + k * 5, none⟩ = some (.int .u64 (pe : Int)) ∧ w'.cell? ⟨b1, o1 + k * 5 + 1, none⟩ = some (.int .u64 (pn : Int)) ∧ w'.cell? ⟨b1, o1 + k * 5 + 2, none⟩ = some (.bool pf) ∧ w'.cell? ⟨b1, o1 + k * 5 + 3, none⟩ = some (.bool pg) ∧ w'.cell? ⟨b1, o1 + k * 5 + 4, none⟩ = some (.slice a1 d q1))) (by kernel_rfl) (by first | with_reducible exact K7.out | with_reducible exact K6.out | with_reducible exact K5.out | with_reducible exact K4.out | with_reducible exact K3.out | with_reducible exact K2.out | with_reducible exact K1.out | with_reducible exact K0.out) (fun hHeld => ?_)
      clear hHeld
      refine wpAnyH_take (i := 0) (oi := ⟨some 36, .move (.tmp 9), 57, "law.go:96", #[], none⟩) (v := ?_) rfl (by kernel_rfl) (by kernel_rfl) (by kernel_rfl) (fun _ _ _ h => h) (Or.inl ⟨by rfl, ?_⟩) (by first | with_reducible exact K7.out | with_reducible exact K6.out | with_reducible exact K5.out | with_reducible exact K4.out | with_reducible exact K3.out | with_reducible exact K2.out | with_reducible exact K1.out | with_reducible exact K0.out) ?_
      rotate_left
      · (intro w hSw; obtain ⟨s0, s1, s2, s3, s4⟩ := hSw; go_simp <;> with_reducible rfl)
      simp only [Act.put, List.setIfInBounds_toArray, List.set_cons_zero, List.set_cons_succ]
      refine wpAnyH_take (i := 1) (oi := ⟨some 37, .move (.tmp 0), 55, "law.go:96", #[], none⟩) (v := ?_) rfl (by kernel_rfl) (by kernel_rfl) (by kernel_rfl) (fun _ _ _ h => h) (Or.inl ⟨by rfl, ?_⟩) (by first | with_reducible exact K7.out | with_reducible exact K6.out | with_reducible exact K5.out | with_reducible exact K4.out | with_reducible exact K3.out | with_reducible exact K2.out | with_reducible exact K1.out | with_reducible exact K0.out) ?_
      rotate_left
      · (intro w hSw; obtain ⟨s0, s1, s2, s3, s4⟩ := hSw; go_simp <;> with_reducible rfl)
      simp only [Act.put, List.setIfInBounds_toArray, List.set_cons_zero, List.set_cons_succ]
      refine wpAnyH_take (i := 2) (oi := ⟨some 38, .move (.tmp 11), 3, "law.go:96", #[], none⟩) (v := ?_) rfl (by kernel_rfl) (by kernel_rfl) (by kernel_rfl) (fun _ _ _ h => h) (Or.inl ⟨by rfl, ?_⟩) (by first | with_reducible exact K7.out | with_reducible exact K6.out | with_reducible exact K5.out | with_reducible exact K4.out | with_reducible exact K3.out | with_reducible exact K2.out | with_reducible exact K1.out | with_reducible exact K0.out) ?_
      rotate_left
      · (intro w hSw; obtain ⟨s0, s1, s2, s3, s4⟩ := hSw; go_simp <;> with_reducible rfl)
      simp only [Act.put, List.setIfInBounds_toArray, List.set_cons_zero, List.set_cons_succ]
      refine wpAnyH_take (i := 3) (oi := ⟨some 39, .indexAddr 55 (.tmp 37) (.tmp 38), 0, "law.go:96", #[⟨1, .data⟩, ⟨2, .data⟩], none⟩) (v := ?_) rfl (by kernel_rfl) (by kernel_rfl) (by kernel_rfl) (fun _ _ _ h => h) (Or.inl ⟨by rfl, ?_⟩) (by first | with_reducible exact K7.out | with_reducible exact K6.out | with_reducible exact K5.out | with_reducible exact K4.out | with_reducible exact K3.out | with_reducible exact K2.out | with_reducible exact K1.out | with_reducible exact K0.out) ?_
      rotate_left
      · (intro w hSw; obtain ⟨s0, s1, s2, s3, s4⟩ := hSw; go_simp <;> with_reducible rfl)
      simp only [Act.put, List.setIfInBounds_toArray, List.set_cons_zero, List.set_cons_succ]
      refine wpAnyH_take (i := 4) (oi := ⟨some 40, .load 61 (.tmp 39), 61, "law.go:96", #[⟨3, .data⟩], none⟩) (v := ?_) rfl (by kernel_rfl) (by kernel_rfl) (by kernel_rfl) (fun _ _ _ h => h) (Or.inl ⟨by rfl, ?_⟩) (by first | with_reducible exact K7.out | with_reducible exact K6.out | with_reducible exact K5.out | with_reducible exact K4.out | with_reducible exact K3.out | with_reducible exact K2.out | with_reducible exact K1.out | with_reducible exact K0.out) ?_
      rotate_left
      · (intro w hSw; obtain ⟨s0, s1, s2, s3, s4⟩ := hSw; go_simp <;> with_reducible rfl)
      simp only [Act.put, List.setIfInBounds_toArray, List.set_cons_zero, List.set_cons_succ]
      refine wpAnyH_take (i := 8) (oi := ⟨some 44, .move (.tmp 10), 55, "law.go:96", #[], none⟩) (v := ?_) rfl (by kernel_rfl) (by kernel_rfl) (by kernel_rfl) (fun _ _ _ h => h) (Or.inl ⟨by rfl, ?_⟩) (by first | with_reducible exact K7.out | with_reducible exact K6.out | with_reducible exact K5.out | with_reducible exact K4.out | with_reducible exact K3.out | with_reducible exact K2.out | with_reducible exact K1.out | with_reducible exact K0.out) ?_
      rotate_left
      · (intro w hSw; obtain ⟨s0, s1, s2, s3, s4⟩ := hSw; go_simp <;> with_reducible rfl)
      simp only [Act.put, List.setIfInBounds_toArray, List.set_cons_zero, List.set_cons_succ]
      refine wpAnyH_take (i := 9) (oi := ⟨some 45, .move (.tmp 0), 55, "law.go:96", #[], none⟩) (v := ?_) rfl (by kernel_rfl) (by kernel_rfl) (by kernel_rfl) (fun _ _ _ h => h) (Or.inl ⟨by rfl, ?_⟩) (by first | with_reducible exact K7.out | with_reducible exact K6.out | with_reducible exact K5.out | with_reducible exact K4.out | with_reducible exact K3.out | with_reducible exact K2.out | with_reducible exact K1.out | with_reducible exact K0.out) ?_
      rotate_left
      · (intro w hSw; obtain ⟨s0, s1, s2, s3, s4⟩ := hSw; go_simp <;> with_reducible rfl)
      simp only [Act.put, List.setIfInBounds_toArray, List.set_cons_zero, List.set_cons_succ]
      refine wpAnyH_take (i := 10) (oi := ⟨some 46, .move (.tmp 11), 3, "law.go:96", #[], none⟩) (v := ?_) rfl (by kernel_rfl) (by kernel_rfl) (by kernel_rfl) (fun _ _ _ h => h) (Or.inl ⟨by rfl, ?_⟩) (by first | with_reducible exact K7.out | with_reducible exact K6.out | with_reducible exact K5.out | with_reducible exact K4.out | with_reducible exact K3.out | with_reducible exact K2.out | with_reducible exact K1.out | with_reducible exact K0.out) ?_
      rotate_left
      · (intro w hSw; obtain ⟨s0, s1, s2, s3, s4⟩ := hSw; go_simp <;> with_reducible rfl)
      simp only [Act.put, List.setIfInBounds_toArray, List.set_cons_zero, List.set_cons_succ]
      refine wpAnyH_take (i := 11) (oi := ⟨some 47, .indexAddr 55 (.tmp 45) (.tmp 46), 0, "law.go:96", #[⟨9, .data⟩, ⟨10, .data⟩], none⟩) (v := ?_) rfl (by kernel_rfl) (by kernel_rfl) (by kernel_rfl) (fun _ _ _ h => h) (Or.inl ⟨by rfl, ?_⟩) (by first | with_reducible exact K7.out | with_reducible exact K6.out | with_reducible exact K5.out | with_reducible exact K4.out | with_reducible exact K3.out | with_reducible exact K2.out | with_reducible exact K1.out | with_reducible exact K0.out) ?_
      rotate_left
      · (intro w hSw; obtain ⟨s0, s1, s2, s3, s4⟩ := hSw; go_simp <;> with_reducible rfl)
      simp only [Act.put, List.setIfInBounds_toArray, List.set_cons_zero, List.set_cons_succ]
      refine wpAnyH_take (i := 12) (oi := ⟨some 48, .load 61 (.tmp 47), 61, "law.go:96", #[⟨11, .data⟩], none⟩) (v := ?_) rfl (by kernel_rfl) (by kernel_rfl) (by kernel_rfl) (fun _ _ _ h => h) (Or.inl ⟨by rfl, ?_⟩) (by first | with_reducible exact K7.out | with_reducible exact K6.out | with_reducible exact K5.out | with_reducible exact K4.out | with_reducible exact K3.out | with_reducible exact K2.out | with_reducible exact K1.out | with_reducible exact K0.out) ?_
      rotate_left
      · (intro w hSw; obtain ⟨s0, s1, s2, s3, s4⟩ := hSw; go_simp <;> with_reducible rfl)
      simp only [Act.put, List.setIfInBounds_toArray, List.set_cons_zero, List.set_cons_succ]
      refine wpAnyH_ready (rs := [5]) (by kernel_rfl) (by simp) ?_
      refine AllReadyH.cons (o := ⟨some 41, .call { callee := Go.Callee.value (.func 27), args := #[Go.Operand.tmp 40], argTypes := #[61] }, 59, "law.go:96", #[⟨4, .data⟩], none⟩) rfl (fun K hK => ?_) AllReadyH.nil
      go_simp
      refine (HMINE.out _ HT0.out).mono ?_
      intro x w1 h
      obtain ⟨am, qm, F1, rfl, s1, t1⟩ := h
      rw [← HDM.out]
      rw [← HDM.out] at s1
      have HT1 := Lib.hid (HT0.out.step t1)
      have HS1 := Lib.hid s1
      have HNF1 := Lib.hid (HT0.out.fresh t1 s1)
      have K1 := Lib.hid (five_at HT1.out HLB.out HC5.out)
      obtain ⟨y1, hy1⟩ : ∃ y, y = w1.heap.size := ⟨_, rfl⟩
      obtain ⟨w2, hw2⟩ : ∃ w2, w2 = w1.alloc (.cells #[.int .u64 (pe : Int), .int .u64 (pn : Int), .bool pf, .bool pg, .slice am dm qm] 59) := ⟨_, rfl⟩
      have HT2 := Lib.hid (show TwoL 59 61 W P k k (.slice aa k ca) (.slice ac k cc) Fa Fc qa qc w2 by rw [hw2]; exact HT1.out.step ((Adv.refl Nul w1).alloc _))
      have HR2 := Lib.hid (show Rd w2 1 (.slice am dm qm) dm (L.map u8) by rw [hw2]; exact HS1.out.rd.up _)
      have K2 := Lib.hid (five_at HT2.out HLB.out HC5.out)
      have HNEW2 := Lib.hid (show ∀ j u, [Value.int .u64 (pe : Int), .int .u64 (pn : Int), .bool pf, .bool pg, .slice am dm qm][j]? = some u → w2.cell? ((⟨y1, 0, none⟩ : Addr).add j) = some u by rw [hw2, hy1]; exact fun j u => pnew_at j u)
      have HW2 := Lib.hid hw2
      have HY1 := Lib.hid hy1
      clear s1 t1 hw2 hy1
      go_wp2_with fail
      refine hK.out _ _ (by first | with_reducible exact K7.out | with_reducible exact K6.out | with_reducible exact K5.out | with_reducible exact K4.out | with_reducible exact K3.out | with_reducible exact K2.out | with_reducible exact K1.out | with_reducible exact K0.out) (fun hHeld => ?_)
      clear hK K hHeld
      try simp only [Act.put, List.setIfInBounds_toArray, List.set_cons_zero, List.set_cons_succ]
      refine wpAnyH_ready (rs := [6]) (by kernel_rfl) (by simp) ?_
      refine AllReadyH.cons (o := ⟨some 42, .buildSlice 57 1 #[(0, Go.Operand.tmp 41)], 57, "law.go:96", #[⟨5, .data⟩], none⟩) rfl (fun K hK => ?_) AllReadyH.nil
      go_simp
      rw [← HW2.out, ← HY1.out]
      refine hK.out _ _ (by first | with_reducible exact K7.out | with_reducible exact K6.out | with_reducible exact K5.out | with_reducible exact K4.out | with_reducible exact K3.out | with_reducible exact K2.out | with_reducible exact K1.out | with_reducible exact K0.out) (fun hHeld => ?_)
      clear hK K hHeld
      try simp only [Act.put, List.setIfInBounds_toArray, List.set_cons_zero, List.set_cons_succ]
      refine wpAnyH_ready (rs := [7]) (by kernel_rfl) (by simp) ?_
      refine AllReadyH.cons (o := ⟨some 43, .call { callee := Go.Callee.builtin Go.Builtin.append, args := #[Go.Operand.tmp 36, Go.Operand.tmp 42], argTypes := #[57, 57] }, 57, "law.go:96", #[⟨0, .data⟩, ⟨6, .data⟩, ⟨5, .chain⟩], none⟩) rfl (fun K hK => ?_) AllReadyH.nil
      refine step_append_own rfl (.tmp 36) (.tmp 42) 57 59 rfl Try.underlying57 infoPiece rfl (by decide) rfl HT2.out.sa.own ⟨y1, 0, none⟩ 1 1 rfl [.int .u64 (pe : Int), .int .u64 (pn : Int), .bool pf, .bool pg, .slice am dm qm] rfl HNEW2.out rone HK1.out HK2.out ?_
      intro v' w3 hown hg hat
      obtain ⟨aa', ca', rfl⟩ := slice_of hown
      obtain ⟨Fa', qa', h3⟩ := HT2.out.push2 HPK.out HDL.out HR2.out HNF1.out hown hg hat
      have HT3 := Lib.hid h3
      have K3 := Lib.hid (five_at HT3.out HLB.out HC5.out)
      clear hown hg hat h3
      refine hK.out _ _ (by first | with_reducible exact K7.out | with_reducible exact K6.out | with_reducible exact K5.out | with_reducible exact K4.out | with_reducible exact K3.out | with_reducible exact K2.out | with_reducible exact K1.out | with_reducible exact K0.out) (fun hHeld => ?_)
      clear hK K hHeld
      try simp only [Act.put, List.setIfInBounds_toArray, List.set_cons_zero, List.set_cons_succ]
      refine wpAnyH_ready (rs := [13]) (by kernel_rfl) (by simp) ?_
      refine AllReadyH.cons (o := ⟨some 49, .call { callee := Go.Callee.value (.func 27), args := #[Go.Operand.tmp 48], argTypes := #[61] }, 59, "law.go:96", #[⟨12, .data⟩, ⟨7, .chain⟩], none⟩) rfl (fun K hK => ?_) AllReadyH.nil
      go_simp
      refine (HMINE.out _ HT3.out).mono ?_
      intro x w4 h
      obtain ⟨an, qn, F4, rfl, s4, t4⟩ := h
      rw [← HDM.out]
      rw [← HDM.out] at s4
      have HT4 := Lib.hid (HT3.out.step t4)
      have HS4 := Lib.hid s4
      have HNF4 := Lib.hid (HT3.out.fresh t4 s4)
      have K4 := Lib.hid (five_at HT4.out HLB.out HC5.out)
      clear s4 t4
      go_wp2_with fail
      refine hK.out _ _ (by first | with_reducible exact K7.out | with_reducible exact K6.out | with_reducible exact K5.out | with_reducible exact K4.out | with_reducible exact K3.out | with_reducible exact K2.out | with_reducible exact K1.out | with_reducible exact K0.out) (fun hHeld => ?_)
      clear hK K hHeld
      try simp only [Act.put, List.setIfInBounds_toArray, List.set_cons_zero, List.set_cons_succ]
      refine wpAnyH_ready (rs := [14]) (by kernel_rfl) (by simp) ?_
      refine AllReadyH.cons (o := ⟨some 50, .call { callee := Go.Callee.value (.func 28), args := #[Go.Operand.tmp 49], argTypes := #[59] }, 61, "law.go:96", #[⟨13, .data⟩, ⟨13, .chain⟩], none⟩) rfl (fun K hK => ?_) AllReadyH.nil
      go_simp
      refine (plain_any _ _ _ _ _ _ _ _).mono ?_
      rintro x w5 ⟨rfl, t5⟩
      have HT5 := Lib.hid (HT4.out.step t5)
      have HR5 := Lib.hid (HS4.out.rd.far (fun _ _ _ h => t5.block _ h (fun h => h)) t5.size)
      have K5 := Lib.hid (five_at HT5.out HLB.out HC5.out)
      obtain ⟨y2, hy2⟩ : ∃ y, y = w5.heap.size := ⟨_, rfl⟩
      obtain ⟨w6, hw6⟩ : ∃ w6, w6 = w5.alloc (.cells #[.int .u64 (pe : Int), .int .u64 (pn : Int), .bool pf, .bool pg, .slice an dm qn] 61) := ⟨_, rfl⟩
      have HT6 := Lib.hid (show TwoL 61 59 W P k (k + 1) (.slice ac k cc) (.slice aa' (k + 1) ca') Fc Fa' qc qa' w6 by rw [hw6]; exact (HT5.out.step ((Adv.refl Nul w5).alloc _)).swap)
      have HR6 := Lib.hid (show Rd w6 1 (.slice an dm qn) dm (L.map u8) by rw [hw6]; exact HR5.out.up _)
      have K6 := Lib.hid (five_at HT6.out.swap HLB.out HC5.out)
      have HNEW6 := Lib.hid (show ∀ j u, [Value.int .u64 (pe : Int), .int .u64 (pn : Int), .bool pf, .bool pg, .slice an dm qn][j]? = some u → w6.cell? ((⟨y2, 0, none⟩ : Addr).add j) = some u by rw [hw6, hy2]; exact fun j u => rnew_at j u)
      have HW6 := Lib.hid hw6
      have HY2 := Lib.hid hy2
      clear t5 hw6 hy2
      go_wp2_with fail
      refine hK.out _ _ (by first | with_reducible exact K7.out | with_reducible exact K6.out | with_reducible exact K5.out | with_reducible exact K4.out | with_reducible exact K3.out | with_reducible exact K2.out | with_reducible exact K1.out | with_reducible exact K0.out) (fun hHeld => ?_)
      clear hK K hHeld
      try simp only [Act.put, List.setIfInBounds_toArray, List.set_cons_zero, List.set_cons_succ]
      refine wpAnyH_ready (rs := [15]) (by kernel_rfl) (by simp) ?_
      refine AllReadyH.cons (o := ⟨some 51, .buildSlice 55 1 #[(0, Go.Operand.tmp 50)], 55, "law.go:96", #[⟨14, .data⟩], none⟩) rfl (fun K hK => ?_) AllReadyH.nil
      go_simp
      rw [← HW6.out, ← HY2.out]
      refine hK.out _ _ (by first | with_reducible exact K7.out | with_reducible exact K6.out | with_reducible exact K5.out | with_reducible exact K4.out | with_reducible exact K3.out | with_reducible exact K2.out | with_reducible exact K1.out | with_reducible exact K0.out) (fun hHeld => ?_)
      clear hK K hHeld
      try simp only [Act.put, List.setIfInBounds_toArray, List.set_cons_zero, List.set_cons_succ]
      refine wpAnyH_ready (rs := [16]) (by kernel_rfl) (by simp) ?_
      refine AllReadyH.cons (o := ⟨some 52, .call { callee := Go.Callee.builtin Go.Builtin.append, args := #[Go.Operand.tmp 44, Go.Operand.tmp 51], argTypes := #[55, 55] }, 55, "law.go:96", #[⟨8, .data⟩, ⟨15, .data⟩, ⟨14, .chain⟩], none⟩) rfl (fun K hK => ?_) AllReadyH.nil
      refine step_append_own rfl (.tmp 44) (.tmp 51) 55 61 rfl Try.underlying55 infoRPiece rfl (by decide) rfl HT6.out.sa.own ⟨y2, 0, none⟩ 1 1 rfl [.int .u64 (pe : Int), .int .u64 (pn : Int), .bool pf, .bool pg, .slice an dm qn] rfl HNEW6.out rone HK1.out HK2.out ?_
      intro v' w7 hown hg hat
      obtain ⟨ac', cc', rfl⟩ := slice_of hown
      obtain ⟨Fc', qc', h7⟩ := HT6.out.push2 HPK.out HDL.out HR6.out (fun g hg hd x => HNF4.out g hg hd x.symm) hown hg hat
      have HT7 := Lib.hid h7.swap
      have K7 := Lib.hid (five_at HT7.out HLB.out HC5.out)
      clear hown hg hat h7
      refine hK.out _ _ (by first | with_reducible exact K7.out | with_reducible exact K6.out | with_reducible exact K5.out | with_reducible exact K4.out | with_reducible exact K3.out | with_reducible exact K2.out | with_reducible exact K1.out | with_reducible exact K0.out) (fun hHeld => ?_)
      clear hK K hHeld
      try simp only [Act.put, List.setIfInBounds_toArray, List.set_cons_zero, List.set_cons_succ]
      refine wpAnyH_take (i := 17) (oi := ⟨some 9, .assign (.tmp 43), 57, "law.go:96", #[⟨7, .data⟩, ⟨16, .chain⟩, ⟨0, .phase⟩, ⟨1, .phase⟩, ⟨2, .phase⟩, ⟨3, .phase⟩, ⟨4, .phase⟩, ⟨5, .phase⟩, ⟨6, .phase⟩, ⟨7, .phase⟩, { on := 8, ground := Go.Ground.textOnly Go.Departure.lateStores }, { on := 9, ground := Go.Ground.textOnly Go.Departure.lateStores }, { on := 10, ground := Go.Ground.textOnly Go.Departure.lateStores }, { on := 11, ground := Go.Ground.textOnly Go.Departure.lateStores }, { on := 12, ground := Go.Ground.textOnly Go.Departure.lateStores }, { on := 13, ground := Go.Ground.textOnly Go.Departure.lateStoresUnsure }, { on := 14, ground := Go.Ground.textOnly Go.Departure.lateStoresUnsure }, { on := 15, ground := Go.Ground.textOnly Go.Departure.lateStores }, { on := 16, ground := Go.Ground.textOnly Go.Departure.lateStoresUnsure }], none⟩) (v := ?_) rfl (by kernel_rfl) (by kernel_rfl) (by kernel_rfl) (fun _ _ _ h => h) (Or.inl ⟨by rfl, ?_⟩) (by first | with_reducible exact K7.out | with_reducible exact K6.out | with_reducible exact K5.out | with_reducible exact K4.out | with_reducible exact K3.out | with_reducible exact K2.out | with_reducible exact K1.out | with_reducible exact K0.out) ?_
      rotate_left
      · (intro w hSw; obtain ⟨s0, s1, s2, s3, s4⟩ := hSw; go_simp <;> with_reducible rfl)
      simp only [Act.put, List.setIfInBounds_toArray, List.set_cons_zero, List.set_cons_succ]
      refine wpAnyH_take (i := 18) (oi := ⟨some 10, .assign (.tmp 52), 55, "law.go:96", #[⟨16, .data⟩, ⟨17, .chain⟩, ⟨0, .phase⟩, ⟨1, .phase⟩, ⟨2, .phase⟩, ⟨3, .phase⟩, ⟨4, .phase⟩, ⟨5, .phase⟩, ⟨6, .phase⟩, ⟨7, .phase⟩, ⟨8, .phase⟩, ⟨9, .phase⟩, ⟨10, .phase⟩, ⟨11, .phase⟩, ⟨12, .phase⟩, ⟨13, .phase⟩, ⟨14, .phase⟩, ⟨15, .phase⟩, ⟨16, .phase⟩, ⟨17, .phase⟩], none⟩) (v := ?_) rfl (by kernel_rfl) (by kernel_rfl) (by kernel_rfl) (fun _ _ _ h => h) (Or.inl ⟨by rfl, ?_⟩) (by first | with_reducible exact K7.out | with_reducible exact K6.out | with_reducible exact K5.out | with_reducible exact K4.out | with_reducible exact K3.out | with_reducible exact K2.out | with_reducible exact K1.out | with_reducible exact K0.out) ?_
      rotate_left
      · (intro w hSw; obtain ⟨s0, s1, s2, s3, s4⟩ := hSw; go_simp <;> with_reducible rfl)
      simp only [Act.put, List.setIfInBounds_toArray, List.set_cons_zero, List.set_cons_succ]
      refine wpAnyH_done (by kernel_rfl) ?_ _
      go_wp2_with fail
      have hlN := HLN.out
      have hl6 := HL6.out
      exact ⟨⟨k + 1, _, _, _, _, _, _, _, _, hlN, by omega, by go_num, rfl, rfl, HT7.out⟩, by simp [intOf]; omega⟩
    · have hps : ∀ i, (P i).d.length ≤ 120 := fun i => by rw [HP.out, mineP]; simp; omega
      have hpb : ∀ p ∈ (List.range k).map P, ∀ x ∈ p.d, x < 256 := mineP_lt HP.out HPS.out (by rw [← HN.out]; exact hkN)
      have hpc : ∀ p ∈ (List.range k).map P, p.c < 18446744073709551616 := mineP_c HP.out HPS.out (by rw [← HN.out]; exact hkN)
      have hpl : ∀ p ∈ (List.range k).map P, p.d.length ≤ 1000 := fun p hp => by obtain ⟨i, _, rfl⟩ := List.mem_map.mp hp; have := hps i; omega
      obtain ⟨ps, hpsd⟩ : ∃ ps, ps = (List.range k).map P := ⟨_, rfl⟩
      have hlen : ps.length = k := by rw [hpsd]; simp
      rw [← hpsd] at hpb hpc hpl
      have hja : Calls Try.prog 29 #[.slice aa k ca] wr (JoinR wr ps) := by
        have h1 := hT.prd.1
        rw [← hpsd] at h1
        have h := pjoin_any aa ca ps wr (by rw [hlen]; exact h1) hpb (by omega) hpl
        rw [hlen] at h
        exact h
      have hjc : ∀ w', Adv Nul wr Nul w' → Calls Try.prog 30 #[.slice ac k cc] w' (JoinR w' ps) := fun w' hw => by
        have h1 := (hT.step hw).swap.prd.1
        rw [← hpsd] at h1
        have h := rjoin_any ac cc ps w' (by rw [hlen]; exact h1) (by omega) hpl hpc
        rw [hlen] at h
        exact h
      have hstop : ((k : Int) < (N : Int) ∧ (k : Int) < 6) ∨ ((N : Int) ≤ (k : Int)) ∨ ((k : Int) < (N : Int) ∧ (6 : Int) ≤ (k : Int)) := by omega
      have HJA := Lib.hid hja
      have HJC := Lib.hid hjc
      have HOLD := Lib.hid hT.old
      have hst : (N : Int) ≤ (k : Int) ∨ ((k : Int) < (N : Int) ∧ (6 : Int) ≤ (k : Int)) := by omega
      clear hps hpb hpc hpl hpsd hlen hja hjc hstop hT hlt hkN hk6
      rcases hst with hst | ⟨hst1, hst2⟩
      all_goals
        go_wp2_with fail
        refine HJA.out.mono ?_
        intro x w1 h
        obtain ⟨AX, qx, rfl, rx, tx⟩ := h
        obtain ⟨X, hX⟩ : ∃ X, X = joinV ps := ⟨_, rfl⟩
        obtain ⟨nx, hnx⟩ : ∃ n, n = X.length := ⟨_, rfl⟩
        obtain ⟨E, hE⟩ : ∃ E, E = joinE ps := ⟨_, rfl⟩
        rw [← hE]
        rw [← hX, ← hnx] at rx ⊢
        have HX := Lib.hid hX
        have HNX := Lib.hid hnx
        have HE := Lib.hid hE
        have HRX := Lib.hid rx
        have HTX := Lib.hid tx
        clear hX hnx hE rx tx
        go_wp2_with fail
        refine (HJC.out _ HTX.out).mono ?_
        intro x w2 h
        obtain ⟨AY, qy, rfl, ry, ty⟩ := h
        rw [← HE.out]
        rw [← HX.out, ← HNX.out] at ry ⊢
        have HRY := Lib.hid ry
        have HRX2 := Lib.hid (HRX.out.far (fun _ _ _ h => ty.block _ h (fun h => h)) ty.size)
        have HT2 := Lib.hid ((HOLD.out.trans HTX.out).trans ty)
        have hee : (E == E) = true := by simp
        clear ry ty
        go_wp2_with fail
        refine (same_any _ _ nx nx X X _ HRX2.out HRY.out).mono ?_
        rintro x w3 ⟨rfl, j, rfl⟩
        rw [decide_eq_true (rfl : X = X)]
        obtain ⟨w3, hw3⟩ : ∃ w3, w3 = w2.drewN j := ⟨_, rfl⟩
        have hT3 : Adv Nul W Nul w3 := by rw [hw3]; exact HT2.out.drewN j
        have HT3 := Lib.hid hT3
        rw [← hw3]
        clear hT3 hw3
        go_wp2_with fail
        refine (cut_any _ l0 500 _ (HI.out.far HT3.out.toBelow) (by decide)).mono ?_
        rintro x w4 ⟨vb, rfl, hb, rfl⟩
        obtain ⟨AB, cb, rfl, hfb1, hfb2⟩ := hb.rd.form
        have hln : (l0.take 500).length ≤ 500 := by simp; omega
        obtain ⟨l, hl⟩ : ∃ l, l = l0.take 500 := ⟨_, rfl⟩
        rw [← hl] at hb hln ⊢
        obtain ⟨mb, hmb⟩ : ∃ m, m = l.length := ⟨_, rfl⟩
        have HL8 := Lib.hid hb.lt
        have HLN := Lib.hid hln
        have hrb := hb.rd
        rw [← hmb] at hrb ⊢
        have HRB := Lib.hid hrb
        have HMB := Lib.hid hmb
        have hpc : Calls Try.prog 31 #[.int .u64 (e : Int), .int .u64 (c : Int), .slice AB mb cb] w3 (CutR w3 e c l) := pcut_any e c _ l w3 (by rw [← hmb]; exact hrb) (by omega)
        have HPC := Lib.hid hpc
        clear hb hl hmb hln hrb hpc hfb1 hfb2 hee
        go_wp2_with fail
        refine HPC.out.mono ?_
        intro x w5 h
        obtain ⟨A5, k5, rfl, p5, t5⟩ := h.opened
        obtain ⟨E2, hE2⟩ : ∃ E, E = cutE e c l.length := ⟨_, rfl⟩
        obtain ⟨NN, hNN⟩ : ∃ E, E = (cutV e c l).length := ⟨_, rfl⟩
        rw [← hE2, ← hNN]
        rw [← hNN] at p5
        have HP5 := Lib.hid p5
        have HT5 := Lib.hid (HT3.out.trans t5)
        have HRB5 := Lib.hid (HRB.out.far (fun _ _ _ h => t5.block _ h (fun h => h)) t5.size)
        have HE2 := Lib.hid hE2
        have HNN := Lib.hid hNN
        clear h p5 t5 hE2 hNN
        by_cases hE0 : E2 = 0
        · subst hE0
          have hv : cutV e c l = cutP e c l := by rw [cutV, if_pos HE2.out.symm]
          have hz := cutE_zero.mp HE2.out.symm
          have hN6 : NN = needN l.length := by rw [HNN.out, hv, cutP_length]
          have hNle : NN ≤ 100 := by rw [hN6]; exact needN_le (by decide) (by have := HLN.out; omega)
          have hok : ∀ k, k < NN → (pieceAt e c l k).ok := fun k hk => by
            refine ⟨hz.1, ?_, ?_⟩
            · show c + k ≤ _
              have := hz.2.2.1
              have := hz.2.1
              omega
            · show ((l.drop (k * 106)).take 106).length ≤ 106
              simp; omega
          have HVV := Lib.hid hv
          have HN6 := Lib.hid hN6
          have HOK := Lib.hid hok
          have HNL := Lib.hid hNle
          have hNI : (NN : Int) ≤ 100 := by omega
          clear hv hz hN6 hok hNle
          go_wp2_with fail
          go_loopw [19, 18] (BackL w5 (pieceAt e c l) NN) (fun t _ _ => NN - (intOf t).toNat)
          case atStart => exact ⟨0, none, 0, Nul, [], Nat.zero_le _, rfl, rfl, TwoL.nil _ _ _ _⟩
          case round =>
            obtain ⟨k, aa, ca, Fa, qa, hkN, rfl, rfl, hT⟩ := hrel
            by_cases hlt : k < NN
            · have hki : (k : Int) < (NN : Int) := by omega
              have hkp : k < (cutV e c l).length := by rw [← HNN.out]; exact hlt
              obtain ⟨b1, o1, a1, q1, rfl, hlb, hc5, hr5⟩ := HP5.out.row hkp
              have hpk : (cutV e c l)[k] = pieceAt e c l k := by
                have h1 := cutP_at e c l (i := k) (by rw [← HN6.out]; exact hlt)
                rw [← h1]
                congr 1
              have hok := HOK.out k hlt
              have hd8 : ∀ x ∈ (pieceAt e c l k).d, x < 256 := fun x hx => HL8.out x (List.mem_of_mem_drop (List.mem_of_mem_take hx))
              rw [hpk] at hc5 hr5
              obtain ⟨p, hp⟩ : ∃ p, p = pieceAt e c l k := ⟨_, rfl⟩
              rw [← hp] at hc5 hr5 hok hd8
              have HPK := Lib.hid hp.symm
              obtain ⟨pe, pn, pf, pg, D⟩ := p
              obtain ⟨d, hd⟩ : ∃ d, d = D.length := ⟨_, rfl⟩
              simp only [← hd] at hc5 hr5
              simp only at hd8
              have h5 := five_at (pe := pe) (pn := pn) (pf := pf) (pg := pg) hT hlb hc5
              have hrr := hr5.far (fun _ _ _ h => hT.old.block _ h (fun h => h)) hT.old.size
              have hseal : Calls Try.prog 33 #[.agg #[.int .u64 (pe : Int), .int .u64 (pn : Int), .bool pf, .bool pg, .slice a1 d q1]] wr (SealO wr ⟨pe, pn, pf, pg, D⟩) := seal_any ⟨pe, pn, pf, pg, D⟩ _ wr (show Rd wr 1 (.slice a1 d q1) D.length _ from by rw [← hd]; exact hrr) hd8
              obtain ⟨z0, z1, z2, z3, z4⟩ := h5
              have HSEAL := Lib.hid hseal
              have HT := Lib.hid hT
              have HOKK := Lib.hid hok
              have HD8 := Lib.hid hd8
              have HD := Lib.hid hd
              have HLT := Lib.hid hlt
              clear hkp hlb hc5 hr5 hpk hok hd8 hp hd hrr hseal hT hlt hkN
              go_wp2_with fail
              refine HSEAL.out.mono ?_
              intro x w6 h
              obtain ⟨A6, m6, k6, F6, rfl, t6, r6, o6, n6⟩ := h.rd
              have e6 : sealE ⟨pe, pn, pf, pg, D⟩ = 0 := if_pos HOKK.out
              have v6 : sealV ⟨pe, pn, pf, pg, D⟩ = sealL ⟨pe, pn, pf, pg, D⟩ := if_pos HOKK.out
              obtain rfl : m6 = 128 := o6 HOKK.out
              rw [e6]
              rw [v6] at r6
              have HR6 := Lib.hid r6
              have HT6 := Lib.hid (HT.out.step t6)
              clear h t6 r6 o6 n6 e6 v6 z0 z1 z2 z3 z4
              go_wp2_with fail
              refine (unseal_any _ 128 _ _ HR6.out (sealL_lt HOKK.out.2.2 HD8.out)).mono ?_
              intro x w7 h
              obtain ⟨a7, q7, F7, rfl, s7, t7⟩ := h.sealed HOKK.out
              simp only [← HD.out] at s7 ⊢
              obtain ⟨y, hy⟩ : ∃ y, y = w7.heap.size := ⟨_, rfl⟩
              obtain ⟨w8, hw8⟩ : ∃ w8, w8 = w7.alloc (.cells #[.int .u64 (pe : Int), .int .u64 (pn : Int), .bool pf, .bool pg, .slice a7 d q7] 59) := ⟨_, rfl⟩
              have HB8 := Lib.hid (show Blk w8 y 59 #[.int .u64 (pe : Int), .int .u64 (pn : Int), .bool pf, .bool pg, .slice a7 d q7] by rw [hw8, hy]; exact Blk.new _ _ _)
              have HNF := Lib.hid (HT6.out.fresh t7 s7)
              have HT7 := Lib.hid (HT6.out.step t7)
              have hr8 := s7.rd.up (.cells #[.int .u64 (pe : Int), .int .u64 (pn : Int), .bool pf, .bool pg, .slice a7 d q7] 59)
              have hr9 := hr8.up (.cells #[.int .u64 (pe : Int), .int .u64 (pn : Int), .bool pf, .bool pg, .slice a7 d q7] 59)
              rw [← hw8] at hr9
              have HR9 := Lib.hid hr9
              have HT9 := Lib.hid (show TwoL 59 61 w5 (pieceAt e c l) k 0 (.slice aa k ca) (.slice none 0 0) Fa Nul qa [] (w8.alloc (.cells #[.int .u64 (pe : Int), .int .u64 (pn : Int), .bool pf, .bool pg, .slice a7 d q7] 59)) by rw [hw8]; exact HT7.out.step (((Adv.refl Nul w7).alloc _).alloc _))
              have HW8 := Lib.hid hw8
              have HY := Lib.hid hy
              have HK1 := Lib.hid (show k + 1 ≤ maxLen by have := HLT.out; have := HNL.out; unfold maxLen; omega)
              have HK2 := Lib.hid (show (k + 1) * 48 ≤ 140737488355328 by have := HLT.out; have := HNL.out; omega)
              clear h s7 t7 hy hw8 hr8 hr9
              go_upto_region 21 with (fail)
              rw [← HW8.out, ← HY.out]
              obtain ⟨z0, z1, z2, z3, z4⟩ := HB8.out.five
              go_wp2_with (first
                | (at_builtin; refine op_append_own rfl (.tmp 114) (.tmp 116) 57 59 rfl Try.underlying57 infoPiece rfl (by decide) rfl HT9.out.sa.own ⟨w8.heap.size, 0, none⟩ 1 1 rfl [.int .u64 (pe : Int), .int .u64 (pn : Int), .bool pf, .bool pg, .slice a7 d q7] rfl pnew_at rone HK1.out HK2.out ?_; intro v' w10 hown hg hat; obtain ⟨aa', ca', rfl⟩ := slice_of hown; obtain ⟨Fa', qa', h10⟩ := HT9.out.push2 HPK.out HD.out HR9.out HNF.out hown hg hat; have HT10 := Lib.hid h10; clear hown hg hat h10)
                | fail)
              have hlt := HLT.out
              exact ⟨⟨k + 1, _, _, _, _, hlt, by go_num, rfl, HT10.out⟩, by simp [intOf]; omega⟩
            · obtain rfl : k = NN := by omega
              have hprd := hT.prd.1
              have hpp : (List.range k).map (pieceAt e c l) = cutP e c l := by rw [HN6.out]; rfl
              have hjo : JoinOk (cutP e c l) := (join_iff _).mp (joinP_cut HE2.out.symm)
              have hj : Calls Try.prog 29 #[.slice aa k ca] wr (JoinR wr (cutP e c l)) := by
                rw [hpp] at hprd
                have hl : (cutP e c l).length = k := by rw [cutP_length]; exact HN6.out.symm
                have hb8 : B8 (cutP e c l) := by
                  have h1 := cutV_lt (e := e) (c := c) HL8.out
                  rw [HVV.out] at h1
                  exact h1
                have h := pjoin_any aa ca (cutP e c l) wr (by rw [hl]; exact hprd) hb8 (by rw [hl]; have := HNL.out; omega) (fun p hp => by obtain ⟨i, _, rfl⟩ := List.mem_map.mp hp; simp [pieceAt]; omega)
                rw [hl] at h
                exact h
              have ev : joinV (cutP e c l) = l := by rw [joinV, if_pos hjo, allD_cut]
              have ee : joinE (cutP e c l) = 0 := if_pos hjo
              have hrb := HRB5.out.far (fun _ _ _ h => hT.old.block _ h (fun h => h)) hT.old.size
              have HJ := Lib.hid hj
              have HEV := Lib.hid ev
              have HEE := Lib.hid ee
              have HRBW := Lib.hid hrb
              have HTW := Lib.hid (HT5.out.trans hT.old)
              clear hprd hpp hjo hj ev ee hrb hT hlt hkN
              go_wp2_with fail
              refine HJ.out.mono ?_
              intro x w6 h
              obtain ⟨AZ, qz, rfl, rz, tz⟩ := h
              rw [HEV.out, ← HMB.out] at rz ⊢
              rw [HEE.out]
              have HRZ := Lib.hid rz
              have HRB6 := Lib.hid (HRBW.out.far (fun _ _ _ h => tz.block _ h (fun h => h)) tz.size)
              have HT6 := Lib.hid (HTW.out.trans tz)
              clear rz tz
              go_wp2_with fail
              refine (same_any _ _ mb mb l l _ HRZ.out HRB6.out).mono ?_
              rintro x w7 ⟨rfl, j7, rfl⟩
              rw [decide_eq_true (rfl : l = l)]
              have HT7 := Lib.hid (HT6.out.drewN j7)
              go_wp2_with fail
              refine (lp_lives_any _).mono ?_
              rintro x w9 ⟨rfl, hb⟩
              have HBL := Lib.hid hb
              clear hb
              go_wp2_with fail
              go_ret
              exact ⟨rfl, HT7.out.toBelow.trans (HBL.out.mono HT7.out.size)⟩
        · have hEb : (E2 == 0) = false := by rw [beq_eq_false_iff_ne]; exact hE0
          obtain rfl : NN = 0 := by rw [HNN.out, cutV, if_neg (by rw [← HE2.out]; exact hE0)]; rfl
          clear hE0
          go_wp2_with (first
            | (go_at_call 32; refine (lp_lives_any _).mono ?_; rintro x w9 ⟨rfl, hb⟩; have HBL := Lib.hid hb; clear hb)
            | fail)
          go_ret
          exact ⟨rfl, HT5.out.toBelow.trans (HBL.out.mono HT5.out.size)⟩
end Go.Proofs.Ytickabjhapghbaa
