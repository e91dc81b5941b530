/- The document's ring: Next, Lists. -/
import Derived.Test.YtmefpafjcafgnaaDoorCqB
import Derived.Test.YtmefpafjcafgnaaDoorCkE
namespace Go.Proofs.YtmefpafjcafgnaaDoor
open Go.RowKit

def allP (s : CS) (i : Nat) : Bool := (List.range i).all (fun j => s.p.testBit j)
set_option maxRecDepth 3000 in
theorem allP_step (s : CS) (i : Nat) : allP s (i + 1) = (allP s i && s.p.testBit i) := by
  unfold allP
  rw [List.range_succ, List.all_append]; simp
set_option maxRecDepth 3000 in
theorem allP_true {s : CS} {i : Nat} (h : allP s i = true) : ∀ j, j < i → s.p.testBit j = true := fun j hj => by
  unfold allP at h
  rw [List.all_eq_true] at h
  exact h j (by simpa using hj)
set_option maxRecDepth 3000 in
theorem allP_false {s : CS} (h : COk s) (e : allP s s.n = false) : s.p ≠ 2 ^ s.n - 1 := fun q => by
  have := (every_iff h.p).1 q
  have : allP s s.n = true := by
    unfold allP
    rw [List.all_eq_true]
    intro j hj
    exact this j (by simpa using hj)
  rw [this] at e; cases e
section
variable {w : World} {x g i : Nat} {s : CS}
set_option maxRecDepth 3000 in
theorem Qr.c0 (h : Qr w x g s) : w.cell? ⟨x, 0, none⟩ = some (.slice (some ⟨g, 0, none⟩) s.n s.n) := h.blk.cell 0
set_option maxRecDepth 3000 in
theorem Qr.c1 (h : Qr w x g s) : w.cell? ⟨x, 1, none⟩ = some (.int .i64 (s.h : Int)) := h.blk.cell 1
set_option maxRecDepth 3000 in
theorem Qr.at_ (h : Qr w x g s) (hi : i < s.n) : w.cell? ⟨g, i * 3, none⟩ = some (.bool (s.u.testBit i)) ∧ w.cell? ⟨g, i * 3 + 1, none⟩ = some (.bool (s.p.testBit i)) ∧ w.cell? ⟨g, i * 3 + 2, none⟩ = some (.bool (s.m.testBit i)) ∧ w.frozen? ⟨g, i * 3 + 2, none⟩ = false := by
  obtain ⟨cs, hb, hp⟩ := h.pls
  obtain ⟨p0, p1, p2⟩ := hp i hi
  exact ⟨(hb.cell _).trans p0, (hb.cell _).trans p1, (hb.cell _).trans p2, hb.frozen _⟩
end
/-- where a ring is that no call has changed in the first loop -/
def QnA (w : World) (s : CS) (t4 t5 : Value) (wr : World) : Prop := ∃ i : Nat, t5 = .int .i64 (i : Int) ∧ t4 = .bool (allP s i) ∧ i ≤ s.n ∧ (∀ j, j < i → s.u.testBit j = true) ∧ w = wr
def QnB (w : World) (x g N : Nat) (r : Nat × CS) (t6 : Value) (wr : World) : Prop := ∃ (k : Nat) (t : CS), t6 = .int .i64 (k : Int) ∧ k ≤ 2 * N ∧ turnF (2 * N - k) t = some r ∧ t.n = N ∧ Qr wr x g t ∧ Adv (Two2 x g) w (Two2 x g) wr
/-- the document's ring, its hand at v -/
structure Qh (w : World) (x g : Nat) (s : CS) (v : Int) : Prop where
  blk : Blk w x 46 #[.slice (some ⟨g, 0, none⟩) s.n s.n, .int .i64 v]
  pls : Pls w g s
  ne : x ≠ g
set_option maxRecDepth 3000 in
theorem Qr.qh {w : World} {x g : Nat} {s : CS} (h : Qr w x g s) : Qh w x g s (s.h : Int) := ⟨h.blk, h.pls, h.ne⟩
set_option maxRecDepth 3000 in
theorem Qh.set {w : World} {x g : Nat} {s : CS} {v : Int} (h : Qh w x g s v) (u : Int) (k : Nat) : Qh ((w.setCell ⟨x, 1, none⟩ (.int .i64 u)).drewN k) x g s u := by
  obtain ⟨cs, hb, hc⟩ := h.pls
  exact ⟨h.blk.set_ 1 (.int .i64 u), ⟨cs, hb.far (fun e => h.ne e.symm) _, hc⟩, h.ne⟩
set_option maxRecDepth 3000 in
theorem Qh.qr {w : World} {x g : Nat} {s t : CS} (h : Qh w x g s (t.h : Int)) (ht : COk t) (hn : t.n = s.n) (hu : t.u = s.u) (hp : t.p = s.p) (hm : t.m = s.m) : Qr w x g t := by
  obtain ⟨cs, hb, hc⟩ := h.pls
  refine ⟨ht, by rw [hn]; exact h.blk, ⟨cs, hb, fun i hi => ?_⟩, h.ne⟩
  rw [hu, hp, hm]; exact hc i (by rw [← hn]; exact hi)
set_option maxRecDepth 3000 in
theorem qr_last {w : World} {x g : Nat} {q : CS} (h : Qr w x g q) (e : q.h + 1 = q.n) (v : Int) (k : Nat) : Qr (((w.setCell ⟨x, 1, none⟩ (.int .i64 v)).drewN k).setCell ⟨x, 1, none⟩ (.int .i64 0)) x g (stepP q) := by
  have e2 : ((stepP q).h : Int) = 0 := by show ((nxt q : Nat) : Int) = 0; unfold nxt; rw [if_pos e]; rfl
  have h2 := (h.qh.set v k).set 0 0
  rw [← e2] at h2
  have := Qh.qr (t := stepP q) h2 h.ok.stepP rfl rfl rfl rfl
  rw [e2] at this
  exact this
set_option maxRecDepth 3000 in
theorem qr_more {w : World} {x g : Nat} {q : CS} (h : Qr w x g q) (e : q.h + 1 ≠ q.n) (k : Nat) : Qr ((w.setCell ⟨x, 1, none⟩ (.int .i64 ((q.h : Int) + 1))).drewN k) x g (stepP q) := by
  have e2 : ((stepP q).h : Int) = (q.h : Int) + 1 := by show ((nxt q : Nat) : Int) = _; unfold nxt; rw [if_neg e]; rfl
  have h2 := h.qh.set ((q.h : Int) + 1) k
  rw [← e2] at h2
  have := Qh.qr (t := stepP q) h2 h.ok.stepP rfl rfl rfl rfl
  rw [e2] at this
  exact this
set_option maxRecDepth 3000 in
theorem adv_last {w w' : World} {x g : Nat} (h : Adv (Two2 x g) w (Two2 x g) w') (v u : Value) (k : Nat) : Adv (Two2 x g) w (Two2 x g) (((w'.setCell ⟨x, 1, none⟩ v).drewN k).setCell ⟨x, 1, none⟩ u) :=
  ((h.setCell (p := ⟨x, 1, none⟩) (.inl (.inl rfl)) v).drewN k).setCell (p := ⟨x, 1, none⟩) (.inl (.inl rfl)) u
set_option maxRecDepth 3000 in
theorem adv_more {w w' : World} {x g : Nat} (h : Adv (Two2 x g) w (Two2 x g) w') (v : Value) (k : Nat) : Adv (Two2 x g) w (Two2 x g) ((w'.setCell ⟨x, 1, none⟩ v).drewN k) :=
  (h.setCell (p := ⟨x, 1, none⟩) (.inl (.inl rfl)) v).drewN k
set_option maxRecDepth 3000 in
theorem qr_mark {w : World} {x g i : Nat} {s : CS} (h : Qr w x g s) (hi : i < s.n) : Qr (w.setCell ⟨g, i * 3 + 2, none⟩ (.bool false)) x g { s with m := ddrop s.m i } := by
  obtain ⟨cs, hb, hc⟩ := h.pls
  refine ⟨⟨h.ok.lo, h.ok.hi, h.ok.u, h.ok.p, ddrop_lt h.ok.m, h.ok.h, h.ok.sub⟩, h.blk.far h.ne _, ⟨_, hb.set_ (i * 3 + 2) (.bool false), fun j hj => ?_⟩, h.ne⟩
  have hi' := pb_no h.ok.m64 h.ok.hi hi
  obtain ⟨q0, q1, q2⟩ := hc j hj
  have hsz : i * 3 + 2 < cs.size := by
    have := (hc i hi).2.2
    rcases Nat.lt_or_ge (i * 3 + 2) cs.size with h | h
    · exact h
    · rw [Array.getElem?_eq_none h] at this; cases this
  show PlAt _ j (s.u.testBit j) (s.p.testBit j) ((ddrop s.m i).testBit j)
  rw [hi' j]
  unfold PlAt
  simp only [Array.getElem?_setIfInBounds]
  refine ⟨by rw [if_neg (by omega)]; exact q0, by rw [if_neg (by omega)]; exact q1, ?_⟩
  by_cases e : j = i
  · subst e; rw [if_pos rfl, if_pos hsz, if_pos rfl]
  · rw [if_neg (by omega), if_neg e]; exact q2
set_option maxRecDepth 3000 in
theorem two2_set {w w' : World} {x g b o : Nat} (h : Adv (Two2 x g) w (Two2 x g) w') (hb : Two2 x g b) (u : Value) : Adv (Two2 x g) w (Two2 x g) (w'.setCell ⟨b, o, none⟩ u) := h.setCell (p := ⟨b, o, none⟩) (.inl hb) u

set_option maxRecDepth 3000 in
set_option maxHeartbeats 3200000 in
theorem qnext_any (w : World) (x g : Nat) (s : CS) (h : Qr w x g s) : Calls Tryd.prog 11 #[.pointer (some ⟨x, 0, none⟩)] w fun e w' => e = .returned (.tuple #[.int .i64 (nextS s).i, .int .i64 (nextS s).e]) ∧ Qr w' x g (nextS s).s ∧ Adv (Two2 x g) w (Two2 x g) w' := by
  have H := Lib.hid h
  have c0 := h.c0
  have hn := h.ok.hi
  obtain ⟨n, hne⟩ : ∃ n, n = s.n := ⟨_, rfl⟩
  rw [← hne] at c0 hn
  have HNE := Lib.hid hne
  clear h hne
  go_enter Tryd.func11, Tryd.ntmps11
  go_wp2_with fail
  go_loopw [4, 5] (QnA w s) (fun _ t _ => n - (intOf t).toNat)
  case atStart => exact ⟨0, rfl, rfl, Nat.zero_le _, fun j hj => absurd hj (Nat.not_lt_zero j), rfl⟩
  case round =>
    obtain ⟨i, rfl, rfl, hi, hu, rfl⟩ := hrel
    have HU := Lib.hid hu
    rw [← HNE.out] at hi
    by_cases hlt : i < n
    · obtain ⟨g0, g1, _, _⟩ := H.out.at_ (i := i) (by rw [← HNE.out]; exact hlt)
      have HA := Lib.hid (allP_step s i)
      have hlt' : (i : Int) < (n : Int) := by omega
      cases hb : s.u.testBit i
      · have e := freeL_some (s := s) (i := i) (by rw [← HNE.out]; exact hlt) hb hu
        have e2 : nextS s = ⟨(i : Int), 0, s⟩ := by unfold nextS; rw [e]
        have HE := Lib.hid e2
        rw [hb] at g0
        clear hu hi e e2 hb g1 HU HA
        go_wp2_with fail
        go_ret2
        rw [HE.out]
        exact ⟨rfl, H.out, Adv.refl _ _⟩
      · have HB := Lib.hid hb
        rw [hb] at g0
        obtain ⟨A, hA⟩ : ∃ A, A = allP s i := ⟨_, rfl⟩
        obtain ⟨B, hB⟩ : ∃ B, B = s.p.testBit i := ⟨_, rfl⟩
        rw [← hB] at g1 HA
        rw [← hA] at HA ⊢
        have HLT := Lib.hid hlt
        clear hu hi hA hB hb hlt
        cases A <;> cases B
        all_goals go_wp2_with fail
        all_goals refine ⟨⟨i + 1, by simp, by rw [HA.out]; rfl, by rw [← HNE.out]; exact HLT.out, fun j hj => ?_, rfl⟩, by have := HLT.out; simp [intOf]; omega⟩
        all_goals
          by_cases e : j = i
          · rw [e]; exact HB.out
          · exact HU.out j (by omega)
    · obtain rfl : n = i := by omega
      rw [HNE.out] at hu ⊢
      cases hA : allP s s.n
      · obtain ⟨r, t, hr, e⟩ := next_turn H.out.ok hu (allP_false H.out.ok hA)
        have HE := Lib.hid e
        rw [← HNE.out] at hr ⊢
        have HR := Lib.hid hr
        clear hu hA hr e HU hi hlt
        go_upto_region 11 with (fail)
        go_loopw [6] (QnB w x g n (r, t)) (fun t _ => 2 * n - (intOf t).toNat)
        case atStart => exact ⟨0, s, rfl, Nat.zero_le _, HR.out, HNE.out.symm, H.out, Adv.refl _ _⟩
        case round =>
          clear c0
          obtain ⟨k, q, rfl, hk, hq, hqn, hQ, ha⟩ := hrel
          have hk2 : k ≠ 2 * n := by
            rintro rfl
            rw [Nat.sub_self] at hq; cases hq
          obtain ⟨m, hm⟩ : ∃ m, 2 * n - k = m + 1 := ⟨2 * n - k - 1, by omega⟩
          rw [hm] at hq
          have hkl : k < 2 * n := by omega
          have hkl' : (k : Int) < 2 * (n : Int) := by omega
          have hm2 : 2 * n - (k + 1) = m := by omega
          have hh : q.h < n := by rw [← hqn]; exact hQ.ok.h
          obtain ⟨g0, g1, g2, f2⟩ := hQ.at_ (i := q.h) hQ.ok.h
          have c0 := hQ.c0
          have c1 := hQ.c1
          have f1 : wr.frozen? ⟨x, 1, none⟩ = false := hQ.blk.frozen 1
          have hne := hQ.ne
          have hne' := hQ.ne.symm
          rw [hqn] at c0
          have HQ := Lib.hid hQ
          have HA := Lib.hid ha
          have HM := Lib.hid hq
          have HM2 := Lib.hid hm2
          have HQN := Lib.hid hqn
          obtain ⟨P, hP⟩ : ∃ P, P = q.p.testBit q.h := ⟨_, rfl⟩
          obtain ⟨M, hM⟩ : ∃ M, M = q.m.testBit q.h := ⟨_, rfl⟩
          rw [← hP] at g1
          rw [← hM] at g2
          have HP := Lib.hid hP.symm
          have HMM := Lib.hid hM.symm
          obtain ⟨h, hhe⟩ : ∃ h, h = q.h := ⟨_, rfl⟩
          rw [← hhe] at c1 g0 g1 g2 f2 hh
          have HH := Lib.hid hhe
          have HK := Lib.hid hkl
          clear hk hq hqn hQ ha hk2 hm hm2 hP hM hhe g0 hkl
          have HPE : h = q.h := HH.out
          have HHE := Lib.hid HPE
          clear HPE
          by_cases hend : h + 1 = n
          · have he : (((h : Int) + 1) == (n : Int)) = true := by rw [beq_iff_eq]; omega
            have HEND := Lib.hid (show q.h + 1 = q.n by rw [HQN.out, ← HHE.out]; exact hend)
            clear hend
            have HS := Lib.hid (fun v k => qr_last HQ.out HEND.out v k)
            have HV := Lib.hid (fun v u k => adv_last HA.out v u k)
            cases P
            · cases M
              · go_upto_region 15 with (fail)
                go_quiet (fail)
                go_wp2_with fail
                go_ret2
                rw [HE.out]
                have e3 := turn_done HP.out HMM.out HM.out
                obtain ⟨e4, e5⟩ := e3
                rw [e4, e5, ← HHE.out]
                exact ⟨rfl, HS.out _ _, HV.out _ _ _⟩
              · go_upto_region 15 with (fail)
                go_quiet (fail)
                go_wp2_with fail
                have h4 := turn_m HP.out HMM.out HM.out
                have h5 := fun v => qr_mark (i := h) (HS.out v nq) (by rw [HHE.out]; exact HQ.out.ok.h)
                rw [HHE.out] at h5
                refine ⟨⟨k + 1, stepM q, by simp, HK.out, by rw [HM2.out]; exact h4, HQN.out, ?_, ?_⟩, by have := HK.out; simp [intOf]; omega⟩
                · rw [HHE.out]; exact h5 _
                · exact (HV.out _ _ _).setCell (p := ⟨g, h * 3 + 2, none⟩) (.inl (.inr rfl)) _
            · go_upto_region 15 with (fail)
              go_quiet (fail)
              go_wp2_with fail
              have h4 := turn_p HP.out HM.out
              exact ⟨⟨k + 1, stepP q, by simp, HK.out, by rw [HM2.out]; exact h4, HQN.out, HS.out _ _, HV.out _ _ _⟩, by have := HK.out; simp [intOf]; omega⟩
          · have he : (((h : Int) + 1) == (n : Int)) = false := by rw [beq_eq_false_iff_ne]; omega
            have HEND := Lib.hid (show q.h + 1 ≠ q.n by rw [HQN.out, ← HHE.out]; exact hend)
            clear hend
            have HS := Lib.hid (fun k => qr_more HQ.out HEND.out k)
            have HV := Lib.hid (fun v k => adv_more HA.out v k)
            rw [← HHE.out] at HS
            cases P
            · cases M
              · go_upto_region 15 with (fail)
                go_quiet (fail)
                go_wp2_with fail
                go_ret2
                rw [HE.out]
                have e3 := turn_done HP.out HMM.out HM.out
                obtain ⟨e4, e5⟩ := e3
                rw [e4, e5, ← HHE.out]
                exact ⟨rfl, HS.out _, HV.out _ _⟩
              · go_upto_region 15 with (fail)
                go_quiet (fail)
                go_wp2_with fail
                have h4 := turn_m HP.out HMM.out HM.out
                have h5 := qr_mark (i := h) (HS.out nq) (by rw [HHE.out]; exact HQ.out.ok.h)
                rw [HHE.out] at h5
                refine ⟨⟨k + 1, stepM q, by simp, HK.out, by rw [HM2.out]; exact h4, HQN.out, ?_, ?_⟩, by have := HK.out; simp [intOf]; omega⟩
                · rw [HHE.out]; exact h5
                · exact (HV.out _ _).setCell (p := ⟨g, h * 3 + 2, none⟩) (.inl (.inr rfl)) _
            · go_upto_region 15 with (fail)
              go_quiet (fail)
              go_wp2_with fail
              have h4 := turn_p HP.out HM.out
              exact ⟨⟨k + 1, stepP q, by simp, HK.out, by rw [HM2.out]; exact h4, HQN.out, HS.out _, HV.out _ _⟩, by have := HK.out; simp [intOf]; omega⟩
      · have e := next_all hu ((every_iff H.out.ok.p).2 (allP_true hA))
        have HE := Lib.hid e
        rw [← HNE.out]
        clear hu hA e HU hi hlt
        go_wp2_with fail
        go_ret2
        rw [HE.out]
        exact ⟨rfl, H.out, Adv.refl _ _⟩
end Go.Proofs.YtmefpafjcafgnaaDoor
