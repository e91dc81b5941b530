/- Which pieces any record has. -/
import Derived.Test.YtogmgpkopachcaaLpKc
import Derived.Test.YtogmgpkopachcaaLpE
import Derived.Deep.DeepCutAuto
namespace Go.Proofs.Ytogmgpkopachcaa
open Go.RowKit

theorem pcut_any (e c : Nat) (v : Value) (l : List Nat) (w : World) (hv : Rd w 1 v l.length (l.map u8)) (hl : l.length ≤ 100000) :
    Calls Try.prog 43 #[.int .u64 (e : Int), .int .u64 (c : Int), v] w (CutR w e c l) := by
  by_cases h : cutE e c l.length = 0
  · exact pcut_ok e c v l w hv h
  · exact pcut_no e c v l w hv hl h
theorem CutR.opened {w w' : World} {e c : Nat} {l : List Nat} {x : Ending} (h : CutR w e c l x w') : ∃ A k, x = .returned (.tuple #[.slice A (cutV e c l).length k, .int .i64 (cutE e c l.length)]) ∧ PRd w' (.slice A (cutV e c l).length k) (cutV e c l) ∧ Adv Nul w Nul w' := by
  obtain ⟨A, n, k, rfl, hp, ha⟩ := h
  have hh := hp
  obtain ⟨A', k', e', _⟩ := hh
  injection e' with _ e2 _
  subst e2
  exact ⟨A, k, rfl, hp, ha⟩
/-- the cells of two pieces -/
def Cells5 (w : World) (b o : Nat) (p : Pc) (v : Value) : Prop :=
  w.cell? ⟨b, o, none⟩ = some (.int .u64 (p.e : Int)) ∧ w.cell? ⟨b, o + 1, none⟩ = some (.int .u64 (p.c : Int)) ∧ w.cell? ⟨b, o + 2, none⟩ = some (.bool p.f) ∧ w.cell? ⟨b, o + 3, none⟩ = some (.bool p.g) ∧ w.cell? ⟨b, o + 4, none⟩ = some v
theorem PRd.row {w : World} {A : Option Addr} {n k : Nat} {ps : List Pc} (h : PRd w (.slice A n k) ps) {i : Nat} (hi : i < ps.length) : ∃ b o a q, A = some ⟨b, o, none⟩ ∧ b < w.heap.size ∧ Cells5 w b (o + i * 5) ps[i] (.slice a ps[i].d.length q) ∧ Rd w 1 (.slice a ps[i].d.length q) ps[i].d.length (ps[i].d.map u8) := by
  obtain ⟨A', k', e, _, _, hc⟩ := h
  injection e with e1 _ _
  subst e1
  obtain ⟨b, o, rfl, hb, hr⟩ := hc (by omega)
  obtain ⟨a, q, c0, c1, c2, c3, c4, hd⟩ := hr i hi
  refine ⟨b, o, a, q, rfl, hb, ⟨by simpa using c0, ?_, ?_, ?_, ?_⟩, hd⟩
  · rw [Nat.add_assoc]; exact c1
  · rw [Nat.add_assoc]; exact c2
  · rw [Nat.add_assoc]; exact c3
  · rw [Nat.add_assoc]; exact c4
theorem Cells5.step {w w' : World} {b o : Nat} {p : Pc} {v : Value} {F : Nat → Prop} (h : Cells5 w b o p v) (hb : b < w.heap.size) (ha : Adv Nul w F w') : Cells5 w' b o p v := by
  have hk := ha.block b hb (fun h => h)
  have e : ∀ j, w'.cell? ⟨b, j, none⟩ = w.cell? ⟨b, j, none⟩ := fun j => World.cell?_of_block hk
  obtain ⟨c0, c1, c2, c3, c4⟩ := h
  exact ⟨by rw [e]; exact c0, by rw [e]; exact c1, by rw [e]; exact c2, by rw [e]; exact c3, by rw [e]; exact c4⟩
structure Two (w : World) (b1 o1 b2 o2 : Nat) (p : Pc) (v1 v2 : Value) : Prop where
  c1 : Cells5 w b1 o1 p v1
  c2 : Cells5 w b2 o2 p v2
  l1 : b1 < w.heap.size
  l2 : b2 < w.heap.size
theorem Two.ten {w w' : World} {b1 o1 b2 o2 pe pn : Nat} {pf pg : Bool} {p : Pc} {v1 v2 : Value} {F : Nat → Prop} (h : Two w b1 o1 b2 o2 p v1 v2) (ha : Adv Nul w F w') (e1 : pe = p.e) (e2 : pn = p.c) (e3 : pf = p.f) (e4 : pg = p.g) :
    w'.cell? ⟨b1, o1, none⟩ = some (.int .u64 (pe : Int)) ∧ w'.cell? ⟨b1, o1 + 1, none⟩ = some (.int .u64 (pn : Int)) ∧ w'.cell? ⟨b1, o1 + 2, none⟩ = some (.bool pf) ∧ w'.cell? ⟨b1, o1 + 3, none⟩ = some (.bool pg) ∧ w'.cell? ⟨b1, o1 + 4, none⟩ = some v1 ∧
    w'.cell? ⟨b2, o2, none⟩ = some (.int .u64 (pe : Int)) ∧ w'.cell? ⟨b2, o2 + 1, none⟩ = some (.int .u64 (pn : Int)) ∧ w'.cell? ⟨b2, o2 + 2, none⟩ = some (.bool pf) ∧ w'.cell? ⟨b2, o2 + 3, none⟩ = some (.bool pg) ∧ w'.cell? ⟨b2, o2 + 4, none⟩ = some v2 := by
  subst e1 e2 e3 e4
  obtain ⟨a0, a1, a2, a3, a4⟩ := h.c1.step h.l1 ha
  obtain ⟨d0, d1, d2, d3, d4⟩ := h.c2.step h.l2 ha
  exact ⟨a0, a1, a2, a3, a4, d0, d1, d2, d3, d4⟩
def BytesR (W : World) (t2 : Value) (wr : World) : Prop := ∃ (A : Option Addr) (q : Nat) (l : List Nat), t2 = .slice A l.length q ∧ Rd wr 1 (.slice A l.length q) l.length (l.map u8) ∧ (∀ x ∈ l, x < 256) ∧ l.length ≤ 8400 ∧ Adv Nul W Nul wr
def CutsL (w : World) (N : Nat) (t : Value) (wr : World) : Prop := ∃ k : Nat, k ≤ N ∧ t = .int .i64 (k : Int) ∧ Adv Nul w Nul wr

theorem bytes_made {W w1 : World} {N : Nat} {v : Value} (hown : w1.ownsRow 0 5 1 v N (List.replicate N (.int .u8 0))) (ha : Adv Nul W Nul w1) (hN : N ≤ 8400) : BytesR W v w1 := by
  have e : (List.replicate N 0).map u8 = List.replicate N (.int .u8 0) := by rw [List.map_replicate]; rfl
  have hl : (List.replicate N 0).length = N := List.length_replicate
  have hs : Sl w1 (fun j => v.ownBlock = some j) 5 1 v N ((List.replicate N 0).map u8) := ⟨by rw [e]; exact hown, fun _ h => h, fun k hk => (hown.lt k hk).2⟩
  obtain ⟨A, q, rfl, _, _⟩ := hs.form0
  refine ⟨A, q, List.replicate N 0, by rw [hl], by rw [hl]; exact hs.rd, fun x hx => by rw [List.eq_of_mem_replicate hx]; decide, by rw [hl]; exact hN, ha⟩

set_option maxRecDepth 3000 in
set_option maxHeartbeats 3200000 in
theorem cuts_walk (W : World) (x : Int) (hx : (Lit.int .u64 x).wf = true) (y : Int) (hy : (Lit.int .u64 y).wf = true) (v0 : Value) (h0 : ∃ l, In W v0 l) (n : Int) (_hn : (Lit.int .i64 n).wf = true) :
    Calls Try.prog 7 #[.int .u64 x, .int .u64 y, v0, .int .i64 n] W fun e w' => e = .returned (.bool true) ∧ Below W.heap.size W w' := by
  obtain ⟨e, rfl, _⟩ := u64_nat hx
  obtain ⟨c, rfl, _⟩ := u64_nat hy
  obtain ⟨l0, hi⟩ := h0
  obtain ⟨i0, hi0, hz0, hz1, hz2⟩ := info_parts Try.infoU8
  have HI := Lib.hid hi
  have HI0 := Lib.hid hi0
  have HZ0 := Lib.hid hz0
  have HZ1 := Lib.hid hz1
  have HZ2 := Lib.hid hz2
  clear hi hx hy hi0 hz0 hz1 hz2
  go_enter Try.func7, Try.ntmps7
  go_wp2_with fail
  refine (cut_any v0 l0 400 W HI.out (by decide)).mono ?_
  rintro e' w0 ⟨v1, rfl, h1, rfl⟩
  obtain ⟨A1, c1, rfl, _, _⟩ := h1.rd.form
  obtain ⟨l1, hl1⟩ : ∃ k, k = l0.take 400 := ⟨_, rfl⟩
  have hn1 : (l0.take 400).length ≤ 400 := by simp; omega
  rw [← hl1] at h1 hn1 ⊢
  obtain ⟨m1, hm1⟩ : ∃ m, m = l1.length := ⟨_, rfl⟩
  have H1 := Lib.hid (show Rd W 1 (.slice A1 m1 c1) m1 (l1.map u8) by rw [hm1]; exact h1.rd)
  have HLT := Lib.hid h1.lt
  rw [← hm1] at hn1 ⊢
  have HM1 := Lib.hid hm1
  have HN1 := Lib.hid hn1
  clear h1 hl1 hm1 hn1
  go_upto_region 2 with (fail)
  obtain ⟨B, hB⟩ : ∃ B, B = decide (8000 < n ∧ n < 8400) := ⟨_, rfl⟩
  have HB := Lib.hid hB
  clear hB
  go_cut [21] (fun t21 wr => t21 = .bool B ∧ wr = W)
  case first =>
    by_cases h1 : 8000 < n
    · by_cases h2 : n < 8400
      · have e : B = true := by rw [HB.out]; simp [h1, h2]
        have HE := Lib.hid e
        clear e
        go_wp2_with fail
        go_meet
        exact ⟨by rw [HE.out], rfl⟩
      · have e : B = false := by rw [HB.out]; simp [h2]
        have h2' : 8400 ≤ n := by omega
        have HE := Lib.hid e
        clear e h2
        go_wp2_with fail
        go_meet
        exact ⟨by rw [HE.out]; simp; omega, rfl⟩
    · have e : B = false := by rw [HB.out]; simp [h1]
      have h1' : n ≤ 8000 := by omega
      have HE := Lib.hid e
      clear e h1
      go_wp2_with fail
      go_meet
      exact ⟨by rw [HE.out], rfl⟩
  case rest =>
  obtain ⟨rfl, rfl⟩ := hcut
  obtain ⟨W, rfl⟩ : ∃ W, W = wc := ⟨_, rfl⟩
  go_upto_if 21 with (fail)
  go_cut [2] (fun t2 wr => BytesR W t2 wr)
  case first =>
    by_cases hn : 8000 < n ∧ n < 8400
    · obtain rfl : B = true := by rw [HB.out]; exact decide_eq_true hn
      obtain ⟨hn1, hn2⟩ := hn
      obtain ⟨N, rfl⟩ := Int.eq_ofNat_of_zero_le (show 0 ≤ n by omega)
      have HNN := Lib.hid (show N ≤ 8400 by omega)
      go_wp2_with (first
        | (at_make; refine wpList_make_full _ rfl _ _ 30 rfl 0 5 i0 (.int .u8 0) 1 Try.underlying30 HI0.out HZ0.out HZ1.out .i64 .i64 _ _ N rfl rfl rfl rfl (by rw [HZ2.out]; have := HNN.out; omega) (by have := HNN.out; unfold maxLen; omega) (Nat.zero_le _) ?_; intro w1 hown hg; have hown2 := own_base hown; rw [made_one _ rfl] at hown2; have hadv : Adv Nul W Nul w1 := ⟨hg.os, hg.tape, hg.output, hg.size, fun j hj _ => hg.block j hj (by simp), fun j hj => .inl hj⟩)
        | fail)
      go_meet
      exact bytes_made hown2 hadv HNN.out
    · obtain rfl : B = false := by rw [HB.out]; exact decide_eq_false hn
      clear hn
      go_wp2_with fail
      all_goals
        go_meet
        exact ⟨A1, c1, l1, by rw [← HM1.out], by rw [← HM1.out]; exact H1.out, HLT.out, by rw [← HM1.out]; have := HN1.out; omega, Adv.refl _ _⟩
  case rest =>
  obtain ⟨A2, q2, l, rfl, hr2, hl2, hlen, ha2⟩ := hcut
  obtain ⟨m, hm⟩ : ∃ m, m = l.length := ⟨_, rfl⟩
  have H2 := Lib.hid hr2
  have HL2 := Lib.hid hl2
  have HLEN := Lib.hid (show l.length ≤ 100000 by omega)
  have HA2 := Lib.hid ha2
  have hp1 := pcut_any e c _ l _ hr2 HLEN.out
  have HC1 := Lib.hid hp1
  rw [← hm] at HC1 ⊢
  have HM := Lib.hid hm
  clear hr2 hl2 hlen ha2 hm hp1
  go_wp2_with fail
  refine (HC1.out).mono ?_
  intro x w1 h
  obtain ⟨A3, k3, rfl, p3, t3⟩ := h.opened
  have hcc := rcut_any e c _ l w1 (H2.out.far (fun _ _ _ h => t3.block _ h (fun h => h)) t3.size) HL2.out HLEN.out
  have HC2 := Lib.hid hcc
  rw [← HM.out] at HC2
  obtain ⟨ps, hps⟩ : ∃ ps, ps = cutV e c l := ⟨_, rfl⟩
  obtain ⟨E, hE⟩ : ∃ E, E = cutE e c l.length := ⟨_, rfl⟩
  rw [← hps, ← hE]
  rw [← hps] at p3
  obtain ⟨N, hN⟩ : ∃ N, N = ps.length := ⟨_, rfl⟩
  rw [← hN]
  have hN3 : N ≤ 1000 := by
    rw [hN, hps, cutV]
    split
    · rw [cutP_length]; have := HLEN.out; unfold needN; omega
    · simp
  have HP3 := Lib.hid p3
  have HT3 := Lib.hid t3
  have HPS := Lib.hid hps
  have HE := Lib.hid hE
  have HN := Lib.hid hN
  clear h hcc p3 t3 hps hE hN
  go_wp2_with fail
  refine (HC2.out).mono ?_
  intro x w2 h
  obtain ⟨A4, k4, rfl, p4, t4⟩ := h.opened
  rw [← HPS.out, ← HE.out, ← HN.out]
  rw [← HPS.out] at p4
  have HP4 := Lib.hid (show PRd w2 (.slice A4 N k4) ps by rw [HN.out]; exact p4)
  have HP3' := Lib.hid (show PRd w2 (.slice A3 N k3) ps by rw [HN.out]; exact HP3.out.step t4)
  have HT4 := Lib.hid (HA2.out.trans (HT3.out.trans t4))
  clear h p4 t4
  have hNI : (N : Int) ≤ 1000 := by omega
  go_wp2_with fail
  go_loopw [13] (CutsL w2 N) (fun t _ => N - (intOf t).toNat)
  case atStart => exact ⟨0, Nat.zero_le _, rfl, Adv.refl _ _⟩
  case round =>
    obtain ⟨k, hk, rfl, ha⟩ := hrel
    by_cases hlt : k < N
    · have hki : (k : Int) < (N : Int) := by omega
      have hkp : k < ps.length := by rw [← HN.out]; exact hlt
      obtain ⟨b1, o1, a1, q1, rfl, hb1, hc1, hr1⟩ := HP3'.out.row hkp
      obtain ⟨b2, o2, a2', q2', rfl, hb2, hc2, hr2⟩ := HP4.out.row hkp
      obtain ⟨p, hp⟩ : ∃ p, p = ps[k] := ⟨_, rfl⟩
      rw [← hp] at hc1 hr1 hc2 hr2
      obtain ⟨d, hd⟩ : ∃ d, d = p.d.length := ⟨_, rfl⟩
      obtain ⟨D, hD⟩ : ∃ D, D = p.d := ⟨_, rfl⟩
      obtain ⟨pe, hpe⟩ : ∃ x, x = p.e := ⟨_, rfl⟩
      obtain ⟨pn, hpn⟩ : ∃ x, x = p.c := ⟨_, rfl⟩
      obtain ⟨pf, hpf⟩ : ∃ x, x = p.f := ⟨_, rfl⟩
      obtain ⟨pg, hpg⟩ : ∃ x, x = p.g := ⟨_, rfl⟩
      rw [← hd] at hc1 hr1 hc2 hr2
      rw [← hD] at hr1 hr2
      have TWO := Lib.hid (show Two w2 b1 (o1 + k * 5) b2 (o2 + k * 5) p (.slice a1 d q1) (.slice a2' d q2') from ⟨hc1, hc2, hb1, hb2⟩)
      have HAW := Lib.hid ha.drew
      have KA := Lib.hid (TWO.out.ten HAW.out hpe hpn hpf hpg)
      have HRA := Lib.hid (hr1.far (fun _ _ _ h => HAW.out.block _ h (fun h => h)) HAW.out.size)
      have HRB := Lib.hid (hr2.far (fun _ _ _ h => HAW.out.block _ h (fun h => h)) HAW.out.size)
      have HPE := Lib.hid hpe
      have HPN := Lib.hid hpn
      have HPF := Lib.hid hpf
      have HPG := Lib.hid hpg
      have HLT' := Lib.hid hlt
      clear hkp hb1 hc1 hr1 hb2 hc2 hr2 hp hd hD hpe hpn hpf hpg ha hlt hk
      go_wp2_with fail
      refine wp_region_held_drew (S := (fun w' => w'.cell? ⟨b1, o1 + k * 5, none⟩ = some (.int .u64 (pe : Int)) ∧ w'.cell? ⟨b1, o1 + k * 5 + 1, none⟩ = some (.int .u64 (pn : Int)) ∧ w'.cell? ⟨b1, o1 + k * 5 + 2, none⟩ = some (.bool pf) ∧ w'.cell? ⟨b1, o1 + k * 5 + 3, none⟩ = some (.bool pg) ∧ w'.cell? ⟨b1, o1 + k * 5 + 4, none⟩ = some (.slice a1 d q1) ∧ w'.cell? ⟨b2, o2 + k * 5, none⟩ = some (.int .u64 (pe : Int)) ∧ w'.cell? ⟨b2, o2 + k * 5 + 1, none⟩ = some (.int .u64 (pn : Int)) ∧ w'.cell? ⟨b2, o2 + k * 5 + 2, none⟩ = some (.bool pf) ∧ w'.cell? ⟨b2, o2 + k * 5 + 3, none⟩ = some (.bool pg) ∧ w'.cell? ⟨b2, o2 + k * 5 + 4, none⟩ = some (.slice a2' d q2'))) (by kernel_rfl) (by first | with_reducible exact KB.out | with_reducible exact KC.out | with_reducible exact KA.out) (fun hHeld => ?_)
      clear hHeld
      refine wpAnyH_take (i := 0) (oi := { dst := some 54, op := Go.Op.move (Go.Operand.tmp 9), type := 77, pos := "law.go:84", after := #[], guard := none }) (v := ?_) rfl (by kernel_rfl) (by kernel_rfl) (by kernel_rfl) (fun _ _ _ h => h) (Or.inl ⟨by rfl, ?_⟩) (by first | with_reducible exact KB.out | with_reducible exact KC.out | with_reducible exact KA.out) ?_
      rotate_left
      · (intro w hSw; obtain ⟨s0, s1, s2, s3, s4, s5, s6, s7, s8, s9⟩ := hSw; go_simp <;> with_reducible rfl)
      simp only [Act.put, List.setIfInBounds_toArray, List.set_cons_zero, List.set_cons_succ]
      refine wpAnyH_take (i := 1) (oi := { dst := some 55, op := Go.Op.move (Go.Operand.tmp 13), type := 3, pos := "law.go:84", after := #[], guard := none }) (v := ?_) rfl (by kernel_rfl) (by kernel_rfl) (by kernel_rfl) (fun _ _ _ h => h) (Or.inl ⟨by rfl, ?_⟩) (by first | with_reducible exact KB.out | with_reducible exact KC.out | with_reducible exact KA.out) ?_
      rotate_left
      · (intro w hSw; obtain ⟨s0, s1, s2, s3, s4, s5, s6, s7, s8, s9⟩ := hSw; go_simp <;> with_reducible rfl)
      simp only [Act.put, List.setIfInBounds_toArray, List.set_cons_zero, List.set_cons_succ]
      refine wpAnyH_take (i := 2) (oi := { dst := some 56, op := Go.Op.indexAddr 77 (Go.Operand.tmp 54) (Go.Operand.tmp 55), type := 0, pos := "law.go:84", after := #[{ on := 0, ground := Go.Ground.data }, { on := 1, ground := Go.Ground.data }], guard := none }) (v := ?_) rfl (by kernel_rfl) (by kernel_rfl) (by kernel_rfl) (fun _ _ _ h => h) (Or.inl ⟨by rfl, ?_⟩) (by first | with_reducible exact KB.out | with_reducible exact KC.out | with_reducible exact KA.out) ?_
      rotate_left
      · (intro w hSw; obtain ⟨s0, s1, s2, s3, s4, s5, s6, s7, s8, s9⟩ := hSw; go_simp <;> with_reducible rfl)
      simp only [Act.put, List.setIfInBounds_toArray, List.set_cons_zero, List.set_cons_succ]
      refine wpAnyH_take (i := 3) (oi := { dst := some 57, op := Go.Op.load 62 (Go.Operand.tmp 56), type := 62, pos := "law.go:84", after := #[{ on := 2, ground := Go.Ground.data }], guard := none }) (v := ?_) rfl (by kernel_rfl) (by kernel_rfl) (by kernel_rfl) (fun _ _ _ h => h) (Or.inl ⟨by rfl, ?_⟩) (by first | with_reducible exact KB.out | with_reducible exact KC.out | with_reducible exact KA.out) ?_
      rotate_left
      · (intro w hSw; obtain ⟨s0, s1, s2, s3, s4, s5, s6, s7, s8, s9⟩ := hSw; go_simp <;> with_reducible rfl)
      simp only [Act.put, List.setIfInBounds_toArray, List.set_cons_zero, List.set_cons_succ]
      refine wpAnyH_take (i := 5) (oi := { dst := some 59, op := Go.Op.move (Go.Operand.tmp 11), type := 80, pos := "law.go:84", after := #[], guard := none }) (v := ?_) rfl (by kernel_rfl) (by kernel_rfl) (by kernel_rfl) (fun _ _ _ h => h) (Or.inl ⟨by rfl, ?_⟩) (by first | with_reducible exact KB.out | with_reducible exact KC.out | with_reducible exact KA.out) ?_
      rotate_left
      · (intro w hSw; obtain ⟨s0, s1, s2, s3, s4, s5, s6, s7, s8, s9⟩ := hSw; go_simp <;> with_reducible rfl)
      simp only [Act.put, List.setIfInBounds_toArray, List.set_cons_zero, List.set_cons_succ]
      refine wpAnyH_take (i := 6) (oi := { dst := some 60, op := Go.Op.move (Go.Operand.tmp 13), type := 3, pos := "law.go:84", after := #[], guard := none }) (v := ?_) rfl (by kernel_rfl) (by kernel_rfl) (by kernel_rfl) (fun _ _ _ h => h) (Or.inl ⟨by rfl, ?_⟩) (by first | with_reducible exact KB.out | with_reducible exact KC.out | with_reducible exact KA.out) ?_
      rotate_left
      · (intro w hSw; obtain ⟨s0, s1, s2, s3, s4, s5, s6, s7, s8, s9⟩ := hSw; go_simp <;> with_reducible rfl)
      simp only [Act.put, List.setIfInBounds_toArray, List.set_cons_zero, List.set_cons_succ]
      refine wpAnyH_take (i := 7) (oi := { dst := some 61, op := Go.Op.indexAddr 80 (Go.Operand.tmp 59) (Go.Operand.tmp 60), type := 0, pos := "law.go:84", after := #[{ on := 5, ground := Go.Ground.data }, { on := 6, ground := Go.Ground.data }], guard := none }) (v := ?_) rfl (by kernel_rfl) (by kernel_rfl) (by kernel_rfl) (fun _ _ _ h => h) (Or.inl ⟨by rfl, ?_⟩) (by first | with_reducible exact KB.out | with_reducible exact KC.out | with_reducible exact KA.out) ?_
      rotate_left
      · (intro w hSw; obtain ⟨s0, s1, s2, s3, s4, s5, s6, s7, s8, s9⟩ := hSw; go_simp <;> with_reducible rfl)
      simp only [Act.put, List.setIfInBounds_toArray, List.set_cons_zero, List.set_cons_succ]
      refine wpAnyH_take (i := 8) (oi := { dst := some 62, op := Go.Op.load 61 (Go.Operand.tmp 61), type := 61, pos := "law.go:84", after := #[{ on := 7, ground := Go.Ground.data }], guard := none }) (v := ?_) rfl (by kernel_rfl) (by kernel_rfl) (by kernel_rfl) (fun _ _ _ h => h) (Or.inl ⟨by rfl, ?_⟩) (by first | with_reducible exact KB.out | with_reducible exact KC.out | with_reducible exact KA.out) ?_
      rotate_left
      · (intro w hSw; obtain ⟨s0, s1, s2, s3, s4, s5, s6, s7, s8, s9⟩ := hSw; go_simp <;> with_reducible rfl)
      simp only [Act.put, List.setIfInBounds_toArray, List.set_cons_zero, List.set_cons_succ]
      refine wpAnyH_ready (rs := [4]) (by kernel_rfl) (by simp) ?_
      refine AllReadyH.cons (o := { dst := some 58, op := Go.Op.call { callee := Go.Callee.value (Go.Operand.func 37), args := #[Go.Operand.tmp 57], argTypes := #[62] }, type := 61, pos := "law.go:84", after := #[{ on := 3, ground := Go.Ground.data }], guard := none }) rfl (fun K hK => ?_) AllReadyH.nil
      go_simp
      refine (plain_any _ _ _ _ _ _ _ _).mono ?_
      rintro x w8 ⟨rfl, t8⟩
      have KC := Lib.hid (TWO.out.ten (HAW.out.trans t8) HPE.out HPN.out HPF.out HPG.out)
      have HR1 := Lib.hid (HRA.out.far (fun _ _ _ h => t8.block _ h (fun h => h)) t8.size)
      have HR2 := Lib.hid (HRB.out.far (fun _ _ _ h => t8.block _ h (fun h => h)) t8.size)
      have HT8 := Lib.hid t8
      clear t8
      go_wp2_with fail
      refine hK.out _ _ (by first | with_reducible exact KB.out | with_reducible exact KC.out | with_reducible exact KA.out) (fun hHeld => ?_)
      clear hK K hHeld
      try simp only [Act.put, List.setIfInBounds_toArray, List.set_cons_zero, List.set_cons_succ]
      refine wpAnyH_ready (rs := [9]) (by kernel_rfl) (by simp) ?_
      refine AllReadyH.cons (o := { dst := some 63, op := Go.Op.call { callee := Go.Callee.value (Go.Operand.func 39), args := #[Go.Operand.tmp 58, Go.Operand.tmp 62], argTypes := #[61, 61] }, type := 4, pos := "law.go:84", after := #[{ on := 4, ground := Go.Ground.data }, { on := 8, ground := Go.Ground.data }, { on := 4, ground := Go.Ground.chain }], guard := none }) rfl (fun K hK => ?_) AllReadyH.nil
      go_simp
      refine (rsame_eq _ _ _ _ _ _ d D _ HR1.out HR2.out).mono ?_
      rintro x w9 ⟨rfl, t9⟩
      have HT9 := Lib.hid (HAW.out.trans (HT8.out.trans t9))
      have KB := Lib.hid (TWO.out.ten HT9.out HPE.out HPN.out HPF.out HPG.out)
      clear t9
      go_wp2_with fail
      refine hK.out _ _ (by first | with_reducible exact KB.out | with_reducible exact KC.out | with_reducible exact KA.out) (fun hHeld => ?_)
      clear hK K hHeld
      try simp only [Act.put, List.setIfInBounds_toArray, List.set_cons_zero, List.set_cons_succ]
      refine wpAnyH_take (i := 10) (oi := { dst := some 64, op := Go.Op.unOp Go.UnOp.not 4 (Go.Operand.tmp 63), type := 4, pos := "law.go:84", after := #[{ on := 9, ground := Go.Ground.data }], guard := none }) (v := ?_) rfl (by kernel_rfl) (by kernel_rfl) (by kernel_rfl) (fun _ _ _ h => h) (Or.inl ⟨by rfl, ?_⟩) (by first | with_reducible exact KB.out | with_reducible exact KC.out | with_reducible exact KA.out) ?_
      rotate_left
      · (intro w hSw; obtain ⟨s0, s1, s2, s3, s4, s5, s6, s7, s8, s9⟩ := hSw; go_simp <;> with_reducible rfl)
      simp only [Act.put, List.setIfInBounds_toArray, List.set_cons_zero, List.set_cons_succ]
      refine wpAnyH_done (by kernel_rfl) ?_ _
      go_wp2_with fail
      have hlt := HLT'.out
      exact ⟨⟨k + 1, by omega, by go_num, HT9.out⟩, by simp [intOf]; omega⟩
    · obtain rfl : k = N := by omega
      have HAW := Lib.hid (HT4.out.trans ha)
      clear ha hlt hk
      go_wp2_with (first
        | (go_at_call 33; refine (lp_lives_any _).mono ?_; rintro x w9 ⟨rfl, hb⟩; have HBL := Lib.hid hb; clear hb)
        | fail)
      go_ret
      exact ⟨rfl, HAW.out.toBelow.trans (HBL.out.mono HAW.out.size)⟩
end Go.Proofs.Ytogmgpkopachcaa
