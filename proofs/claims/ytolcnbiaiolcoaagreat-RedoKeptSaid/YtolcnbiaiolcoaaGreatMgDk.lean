/- The disk: Crash, where nothing tears (torn is 0 or less). The disk: Crash, where nothing tears (torn is 128 or more). The disk: Crash, where a write tears. -/
import Derived.Test.YtolcnbiaiolcoaaGreatMgDc
namespace Go.Proofs.YtolcnbiaiolcoaaGreat
open Go.RowKit

theorem layN_zero {L : List (List Nat)} {q : Nat × List Nat} (h : q.1 < L.length) : layN L q 0 = L := by
  rw [layN, List.take_zero, List.nil_append, List.drop_zero, List.getD_eq_getElem?_getD, List.getElem?_eq_getElem h]
  exact List.set_getElem_self h

theorem Rd.adv {w w' : World} {F F' : Nat → Prop} {size n : Nat} {v : Value} {xs : List Value} (h : Rd w size v n xs) (ha : Adv F w F' w') (hs : ∀ k, v.ownBlock = some k → 0 < n → ¬ F k) : Rd w' size v n xs :=
  h.far (fun k hk hn hl => ha.block k hl (hs k hk hn)) ha.size

theorem getD_at {ks : List Int} {k : Nat} (hk : k < ks.length) : (ks.map (Value.int .i64))[k]? = some (.int .i64 (ks.getD k 0)) := by
  rw [List.getElem?_map, List.getD_eq_getElem?_getD, List.getElem?_eq_getElem hk]; rfl

def CrEnd (w : World) (F : Nat → Prop) (d gl gr n : Nat) (s : DS) (ks : List Int) (torn : Int) (w' : World) : Prop :=
  DkR w' F d gl gr (.slice none 0 0) n (crashS s ks torn).L (crashS s ks torn) ∧ Adv F w F w'

set_option maxRecDepth 3000 in
set_option maxHeartbeats 3200000 in
theorem crash_low (d gl gr n m : Nat) (vQ vk : Value) (F : Nat → Prop) (s : DS) (ks : List Int) (torn : Int) (w : World) (h : DkR w F d gl gr vQ n (lays s.L s.Q) s) (ho : s.ok n) (hk : Rd w 1 vk m (ks.map (Value.int .i64))) (hsep : ∀ k, vk.ownBlock = some k → 0 < m → ¬ F k) (t0 : torn ≤ 0) :
    Calls Tryz.prog 19 #[.pointer (some ⟨d, 0, none⟩), vk, .int .i64 torn] w fun e w' => e = .returned (.tuple #[]) ∧ CrEnd w F d gl gr n s ks torn w' := by
  have c0 := h.c0
  have c2 := h.c2
  obtain ⟨ak, ck, rfl, hkc, hkm⟩ := hk.form
  obtain ⟨aq, cq, rfl, hqc, hqm⟩ := h.b.waits.form0
  unfold maxLen at hqm hkm
  have hkl : ks.length = m := by obtain ⟨_, _, _, _, _, h, _⟩ := hk; simpa using h
  have H := Lib.hid h
  have HO := Lib.hid ho
  have HK := Lib.hid hk
  have HSEP := Lib.hid hsep
  have HKL := Lib.hid hkl
  have HQL := Lib.hid (Nat.le_trans hqc (show cq ≤ 9223372036854775807 by omega))
  clear h ho hk hsep hkl hqc hqm
  go_enter Tryz.func19, Tryz.ntmps19
  go_wp2_with (first
    | (go_at_call 63; refine (made_r _ _ _ _ c0).mono ?_; rintro e w1 ⟨rfl, rfl⟩)
    | fail)
  go_loopw [23] (FlRel w F d gl gr n (.slice aq s.Q.length cq) (lays s.L s.Q) s.L s (kept ks torn s.Q.length)) (fun t _ => s.Q.length - (intOf t).toNat)
  case atStart => exact ⟨0, rfl, Nat.zero_le _, H.out, Adv.refl _ _⟩
  case round =>
    obtain ⟨k, rfl, hkk, hr, ha⟩ := hrel
    clear c2
    by_cases hlt : k < s.Q.length
    · have hql := HQL.out
      obtain ⟨g, c, e, hFg, hrg, hq1, hq2⟩ := hr.b.wait_at hlt
      injection e with e1 e2 e3
      subst e1
      clear e2 e3
      have hstep : laysBy (kept ks torn s.Q.length) s.Q s.L (k + 1) = layN (laysBy (kept ks torn s.Q.length) s.Q s.L k) (s.Q.getD k (0, [])) (kept ks torn s.Q.length k) := rfl
      obtain ⟨q, hq⟩ : ∃ q, q = s.Q.getD k (0, []) := ⟨_, rfl⟩
      rw [← hq] at hrg hq1 hq2 hstep
      have hqL : q.1 < (laysBy (kept ks torn s.Q.length) s.Q s.L k).length := by rw [show (laysBy (kept ks torn s.Q.length) s.Q s.L k).length = n from hr.b.lenL]; exact hq1
      have hnew := new_range wr q
      have hr2 := hr.alloc (.cells (wcells q).toArray 114)
      have ha2 := ha.alloc (.cells (wcells q).toArray 114)
      have hkA := HK.out.adv ha2 HSEP.out
      have c2 := hr2.c2
      have hlw : IntKind.i64.wrap ((s.Q.length : Int) - 1) = (s.Q.length : Int) - 1 := by rw [IntKind.wrap_i64]; omega
      have hkM : k + 1 ≤ 9223372036854775807 := by omega
      have HR2 := Lib.hid hr2
      have HA2 := Lib.hid ha2
      have HRG := Lib.hid hrg
      have HQ1 := Lib.hid hq1
      have HQ2 := Lib.hid hq2
      have HNEW := Lib.hid hnew
      have HST := Lib.hid hstep
      have HKA := Lib.hid hkA
      have HQL2 := Lib.hid hqL
      clear hr ha hrg hq1 hq2 hnew hq hr2 ha2 hstep hkA hqL hql
      have hkept0 : kept ks torn s.Q.length k = if ks.getD k 0 ≠ 0 then 128 else 0 := by unfold kept; rw [if_neg (by omega)]
      by_cases hkm2 : k < m
      · have hki : (k : Int) < (m : Int) := by omega
        obtain ⟨bk, ok, e, _, hcell⟩ := HKA.out.cells (by omega) (by decide)
        subst e
        have kc := hcell k _ (getD_at (by have := HKL.out; omega))
        obtain ⟨x, hx⟩ : ∃ x, x = ks.getD k 0 := ⟨_, rfl⟩
        rw [← hx] at kc hkept0
        clear hcell hx
        by_cases hx0 : x = 0
        · have hxb : (x != 0) = false := by simp [hx0]
          have hK0 : kept ks torn s.Q.length k = 0 := by rw [hkept0, if_neg (by simp [hx0])]
          have HK0 := Lib.hid hK0
          clear hkept0 hK0 hx0
          go_wp2_with (first
            | (refine op_load_write rfl _ rfl g (k * 129) q HQ2.out HRG.out rfl ?_)
            | (refine op_alloc_write rfl rfl ?_)
            | (refine op_store_write rfl _ _ rfl _ rfl q HQ2.out rfl rfl ?_)
            | fail)
          refine ⟨⟨k + 1, by simp, by omega, ?_, HA2.out⟩, by simp [intOf]; omega⟩
          rw [HST.out, HK0.out, layN_zero HQL2.out]
          exact HR2.out
        · have hxb : (x != 0) = true := by simp [hx0]
          have hK0 : kept ks torn s.Q.length k = 128 := by rw [hkept0, if_pos hx0]
          have HK0 := Lib.hid hK0
          clear hkept0 hK0 hx0
          go_wp2_with (first
            | (go_at_call 64; refine (lay_r _ _ _ _ _ _ _ _ q 128 _ HR2.out HQ1.out HQ2.out (Nat.le_refl _)).mono ?_; rintro e w2 ⟨rfl, h2, a2⟩; have H2 := Lib.hid h2; have A2 := Lib.hid a2; clear h2 a2)
            | (refine op_load_write rfl _ rfl g (k * 129) q HQ2.out HRG.out rfl ?_)
            | (refine op_load_write rfl _ rfl wr.heap.size 0 q HQ2.out HNEW.out rfl ?_)
            | (refine op_alloc_write rfl rfl ?_)
            | (refine op_store_write rfl _ _ rfl _ rfl q HQ2.out rfl rfl ?_)
            | fail)
          refine ⟨⟨k + 1, by simp, by omega, ?_, HA2.out.trans A2.out⟩, by simp [intOf]; omega⟩
          rw [HST.out, HK0.out]
          exact H2.out
      · have hki : (m : Int) ≤ (k : Int) := by omega
        have hK0 : kept ks torn s.Q.length k = 0 := by rw [hkept0, List.getD_eq_getElem?_getD, List.getElem?_eq_none (by have := HKL.out; omega)]; simp
        have HK0 := Lib.hid hK0
        clear hkept0 hK0
        go_wp2_with (first
          | (refine op_load_write rfl _ rfl g (k * 129) q HQ2.out HRG.out rfl ?_)
          | (refine op_alloc_write rfl rfl ?_)
          | (refine op_store_write rfl _ _ rfl _ rfl q HQ2.out rfl rfl ?_)
          | fail)
        refine ⟨⟨k + 1, by simp, by omega, ?_, HA2.out⟩, by simp [intOf]; omega⟩
        rw [HST.out, HK0.out, layN_zero HQL2.out]
        exact HR2.out
    · obtain rfl : k = s.Q.length := by omega
      have HR := Lib.hid hr
      have HA := Lib.hid ha
      clear hr ha
      go_wp2_with (first
        | (go_at_call 65; refine (forget_r _ _ _ _ _ _ _ _ _ HR.out).mono ?_; rintro e w2 ⟨rfl, h2, a2⟩; have HB2 := Lib.hid h2.b; have HK2 := Lib.hid h2.blk; have HA2 := Lib.hid a2; have d3 := h2.c3; have d4 := h2.c4; have d5 := h2.c5; have f3 := h2.blk.frozen 3; have f4 := h2.blk.frozen 4; have f5 := h2.blk.frozen 5; clear h2 a2)
        | fail)
      go_end0
      refine ⟨rfl, ?_, ((((HA.out.trans HA2.out).setCell (p := ⟨d, 3, none⟩) (.inl HB2.out.inD) _).setCell (p := ⟨d, 4, none⟩) (.inl HB2.out.inD) _).setCell (p := ⟨d, 5, none⟩) (.inl HB2.out.inD) _)⟩
      have hb := ((HB2.out.set_ 3 (.bool false)).set_ 4 (.bool false)).set_ 5 (.int .i64 0)
      have hk := ((HK2.out.set_ 3 (.bool false)).set_ 4 (.bool false)).set_ 5 (.int .i64 0)
      have e : readTo (laysBy (kept ks torn s.Q.length) s.Q s.L s.Q.length) s.Q (lays s.L s.Q) s.Q.length = laysBy (kept ks torn s.Q.length) s.Q s.L s.Q.length := readTo_all _ _ _
      obtain ⟨LL, hLL⟩ : ∃ LL, LL = laysBy (kept ks torn s.Q.length) s.Q s.L s.Q.length := ⟨_, rfl⟩
      have hcr : crashS s ks torn = ⟨LL, [], false, none⟩ := by rw [hLL]; rfl
      rw [hcr]
      simp only [← hLL] at e hb
      rw [e] at hb
      exact ⟨hk, hb⟩

end Go.Proofs.YtolcnbiaiolcoaaGreat
namespace Go.Proofs.YtolcnbiaiolcoaaGreat
open Go.RowKit

set_option maxRecDepth 3000 in
set_option maxHeartbeats 3200000 in
theorem crash_high (d gl gr n m : Nat) (vQ vk : Value) (F : Nat → Prop) (s : DS) (ks : List Int) (torn : Int) (w : World) (h : DkR w F d gl gr vQ n (lays s.L s.Q) s) (ho : s.ok n) (hk : Rd w 1 vk m (ks.map (Value.int .i64))) (hsep : ∀ k, vk.ownBlock = some k → 0 < m → ¬ F k) (t0 : 128 ≤ torn) :
    Calls Tryz.prog 19 #[.pointer (some ⟨d, 0, none⟩), vk, .int .i64 torn] w fun e w' => e = .returned (.tuple #[]) ∧ CrEnd w F d gl gr n s ks torn w' := by
  have c0 := h.c0
  have c2 := h.c2
  obtain ⟨ak, ck, rfl, hkc, hkm⟩ := hk.form
  obtain ⟨aq, cq, rfl, hqc, hqm⟩ := h.b.waits.form0
  unfold maxLen at hqm hkm
  have hkl : ks.length = m := by obtain ⟨_, _, _, _, _, h, _⟩ := hk; simpa using h
  have H := Lib.hid h
  have HO := Lib.hid ho
  have HK := Lib.hid hk
  have HSEP := Lib.hid hsep
  have HKL := Lib.hid hkl
  have HQL := Lib.hid (Nat.le_trans hqc (show cq ≤ 9223372036854775807 by omega))
  clear h ho hk hsep hkl hqc hqm
  go_enter Tryz.func19, Tryz.ntmps19
  go_wp2_with (first
    | (go_at_call 63; refine (made_r _ _ _ _ c0).mono ?_; rintro e w1 ⟨rfl, rfl⟩)
    | fail)
  rw [show decide (torn < 128) = false from decide_eq_false (by omega)]
  go_loopw [23] (FlRel w F d gl gr n (.slice aq s.Q.length cq) (lays s.L s.Q) s.L s (kept ks torn s.Q.length)) (fun t _ => s.Q.length - (intOf t).toNat)
  case atStart => exact ⟨0, rfl, Nat.zero_le _, H.out, Adv.refl _ _⟩
  case round =>
    obtain ⟨k, rfl, hkk, hr, ha⟩ := hrel
    clear c2
    by_cases hlt : k < s.Q.length
    · have hql := HQL.out
      obtain ⟨g, c, e, hFg, hrg, hq1, hq2⟩ := hr.b.wait_at hlt
      injection e with e1 e2 e3
      subst e1
      clear e2 e3
      have hstep : laysBy (kept ks torn s.Q.length) s.Q s.L (k + 1) = layN (laysBy (kept ks torn s.Q.length) s.Q s.L k) (s.Q.getD k (0, [])) (kept ks torn s.Q.length k) := rfl
      obtain ⟨q, hq⟩ : ∃ q, q = s.Q.getD k (0, []) := ⟨_, rfl⟩
      rw [← hq] at hrg hq1 hq2 hstep
      have hqL : q.1 < (laysBy (kept ks torn s.Q.length) s.Q s.L k).length := by rw [show (laysBy (kept ks torn s.Q.length) s.Q s.L k).length = n from hr.b.lenL]; exact hq1
      have hnew := new_range wr q
      have hr2 := hr.alloc (.cells (wcells q).toArray 114)
      have ha2 := ha.alloc (.cells (wcells q).toArray 114)
      have hkA := HK.out.adv ha2 HSEP.out
      have c2 := hr2.c2
      have hlw : IntKind.i64.wrap ((s.Q.length : Int) - 1) = (s.Q.length : Int) - 1 := by rw [IntKind.wrap_i64]; omega
      have hkM : k + 1 ≤ 9223372036854775807 := by omega
      have HR2 := Lib.hid hr2
      have HA2 := Lib.hid ha2
      have HRG := Lib.hid hrg
      have HQ1 := Lib.hid hq1
      have HQ2 := Lib.hid hq2
      have HNEW := Lib.hid hnew
      have HST := Lib.hid hstep
      have HKA := Lib.hid hkA
      have HQL2 := Lib.hid hqL
      clear hr ha hrg hq1 hq2 hnew hq hr2 ha2 hstep hkA hqL hql
      have hkept0 : kept ks torn s.Q.length k = if ks.getD k 0 ≠ 0 then 128 else 0 := by unfold kept; rw [if_neg (by omega)]
      by_cases hkm2 : k < m
      · have hki : (k : Int) < (m : Int) := by omega
        obtain ⟨bk, ok, e, _, hcell⟩ := HKA.out.cells (by omega) (by decide)
        subst e
        have kc := hcell k _ (getD_at (by have := HKL.out; omega))
        obtain ⟨x, hx⟩ : ∃ x, x = ks.getD k 0 := ⟨_, rfl⟩
        rw [← hx] at kc hkept0
        clear hcell hx
        by_cases hx0 : x = 0
        · have hxb : (x != 0) = false := by simp [hx0]
          have hK0 : kept ks torn s.Q.length k = 0 := by rw [hkept0, if_neg (by simp [hx0])]
          have HK0 := Lib.hid hK0
          clear hkept0 hK0 hx0
          go_wp2_with (first
            | (refine op_load_write rfl _ rfl g (k * 129) q HQ2.out HRG.out rfl ?_)
            | (refine op_alloc_write rfl rfl ?_)
            | (refine op_store_write rfl _ _ rfl _ rfl q HQ2.out rfl rfl ?_)
            | fail)
          refine ⟨⟨k + 1, by simp, by omega, ?_, HA2.out⟩, by simp [intOf]; omega⟩
          rw [HST.out, HK0.out, layN_zero HQL2.out]
          exact HR2.out
        · have hxb : (x != 0) = true := by simp [hx0]
          have hK0 : kept ks torn s.Q.length k = 128 := by rw [hkept0, if_pos hx0]
          have HK0 := Lib.hid hK0
          clear hkept0 hK0 hx0
          go_wp2_with (first
            | (go_at_call 64; refine (lay_r _ _ _ _ _ _ _ _ q 128 _ HR2.out HQ1.out HQ2.out (Nat.le_refl _)).mono ?_; rintro e w2 ⟨rfl, h2, a2⟩; have H2 := Lib.hid h2; have A2 := Lib.hid a2; clear h2 a2)
            | (refine op_load_write rfl _ rfl g (k * 129) q HQ2.out HRG.out rfl ?_)
            | (refine op_load_write rfl _ rfl wr.heap.size 0 q HQ2.out HNEW.out rfl ?_)
            | (refine op_alloc_write rfl rfl ?_)
            | (refine op_store_write rfl _ _ rfl _ rfl q HQ2.out rfl rfl ?_)
            | fail)
          refine ⟨⟨k + 1, by simp, by omega, ?_, HA2.out.trans A2.out⟩, by simp [intOf]; omega⟩
          rw [HST.out, HK0.out]
          exact H2.out
      · have hki : (m : Int) ≤ (k : Int) := by omega
        have hK0 : kept ks torn s.Q.length k = 0 := by rw [hkept0, List.getD_eq_getElem?_getD, List.getElem?_eq_none (by have := HKL.out; omega)]; simp
        have HK0 := Lib.hid hK0
        clear hkept0 hK0
        go_wp2_with (first
          | (refine op_load_write rfl _ rfl g (k * 129) q HQ2.out HRG.out rfl ?_)
          | (refine op_alloc_write rfl rfl ?_)
          | (refine op_store_write rfl _ _ rfl _ rfl q HQ2.out rfl rfl ?_)
          | fail)
        refine ⟨⟨k + 1, by simp, by omega, ?_, HA2.out⟩, by simp [intOf]; omega⟩
        rw [HST.out, HK0.out, layN_zero HQL2.out]
        exact HR2.out
    · obtain rfl : k = s.Q.length := by omega
      have HR := Lib.hid hr
      have HA := Lib.hid ha
      clear hr ha
      go_wp2_with (first
        | (go_at_call 65; refine (forget_r _ _ _ _ _ _ _ _ _ HR.out).mono ?_; rintro e w2 ⟨rfl, h2, a2⟩; have HB2 := Lib.hid h2.b; have HK2 := Lib.hid h2.blk; have HA2 := Lib.hid a2; have d3 := h2.c3; have d4 := h2.c4; have d5 := h2.c5; have f3 := h2.blk.frozen 3; have f4 := h2.blk.frozen 4; have f5 := h2.blk.frozen 5; clear h2 a2)
        | fail)
      go_end0
      refine ⟨rfl, ?_, ((((HA.out.trans HA2.out).setCell (p := ⟨d, 3, none⟩) (.inl HB2.out.inD) _).setCell (p := ⟨d, 4, none⟩) (.inl HB2.out.inD) _).setCell (p := ⟨d, 5, none⟩) (.inl HB2.out.inD) _)⟩
      have hb := ((HB2.out.set_ 3 (.bool false)).set_ 4 (.bool false)).set_ 5 (.int .i64 0)
      have hk := ((HK2.out.set_ 3 (.bool false)).set_ 4 (.bool false)).set_ 5 (.int .i64 0)
      have e : readTo (laysBy (kept ks torn s.Q.length) s.Q s.L s.Q.length) s.Q (lays s.L s.Q) s.Q.length = laysBy (kept ks torn s.Q.length) s.Q s.L s.Q.length := readTo_all _ _ _
      obtain ⟨LL, hLL⟩ : ∃ LL, LL = laysBy (kept ks torn s.Q.length) s.Q s.L s.Q.length := ⟨_, rfl⟩
      have hcr : crashS s ks torn = ⟨LL, [], false, none⟩ := by rw [hLL]; rfl
      rw [hcr]
      simp only [← hLL] at e hb
      rw [e] at hb
      exact ⟨hk, hb⟩

end Go.Proofs.YtolcnbiaiolcoaaGreat
namespace Go.Proofs.YtolcnbiaiolcoaaGreat
open Go.RowKit

theorem lay_i (mi : Int) {m : Nat} (hmi : mi = (m : Int)) (d gl gr n : Nat) (vQ : Value) (F : Nat → Prop) (R : List (List Nat)) (s : DS) (q : Nat × List Nat) (w : World) (h : DkR w F d gl gr vQ n R s) (hq : q.1 < n) (hl : q.2.length = 128) (hm : m ≤ 128) :
    Calls Tryz.prog 64 #[.pointer (some ⟨d, 0, none⟩), .agg (wcells q).toArray, .int .i64 mi] w fun e w' => e = .returned (.tuple #[]) ∧ DkR w' F d gl gr vQ n R { s with L := layN s.L q m } ∧ Adv F w F w' := by
  subst hmi
  exact lay_r d gl gr n vQ F R s q m w h hq hl hm

set_option maxRecDepth 3000 in
set_option maxHeartbeats 3200000 in
theorem crash_tears (d gl gr n m : Nat) (vQ vk : Value) (F : Nat → Prop) (s : DS) (ks : List Int) (torn : Int) (w : World) (h : DkR w F d gl gr vQ n (lays s.L s.Q) s) (ho : s.ok n) (hk : Rd w 1 vk m (ks.map (Value.int .i64))) (hsep : ∀ k, vk.ownBlock = some k → 0 < m → ¬ F k) (t0 : 0 < torn) (t1 : torn < 128) :
    Calls Tryz.prog 19 #[.pointer (some ⟨d, 0, none⟩), vk, .int .i64 torn] w fun e w' => e = .returned (.tuple #[]) ∧ CrEnd w F d gl gr n s ks torn w' := by
  have c0 := h.c0
  have c2 := h.c2
  obtain ⟨ak, ck, rfl, hkc, hkm⟩ := hk.form
  obtain ⟨aq, cq, rfl, hqc, hqm⟩ := h.b.waits.form0
  unfold maxLen at hqm hkm
  have hkl : ks.length = m := by obtain ⟨_, _, _, _, _, h, _⟩ := hk; simpa using h
  have H := Lib.hid h
  have HO := Lib.hid ho
  have HK := Lib.hid hk
  have HSEP := Lib.hid hsep
  have HKL := Lib.hid hkl
  have HQL := Lib.hid (Nat.le_trans hqc (show cq ≤ 9223372036854775807 by omega))
  clear h ho hk hsep hkl hqc hqm
  go_enter Tryz.func19, Tryz.ntmps19
  go_wp2_with (first
    | (go_at_call 63; refine (made_r _ _ _ _ c0).mono ?_; rintro e w1 ⟨rfl, rfl⟩)
    | fail)
  go_loopw [23] (FlRel w F d gl gr n (.slice aq s.Q.length cq) (lays s.L s.Q) s.L s (kept ks torn s.Q.length)) (fun t _ => s.Q.length - (intOf t).toNat)
  case atStart => exact ⟨0, rfl, Nat.zero_le _, H.out, Adv.refl _ _⟩
  case round =>
    obtain ⟨k, rfl, hkk, hr, ha⟩ := hrel
    clear c2
    by_cases hlt : k < s.Q.length
    · have hql := HQL.out
      obtain ⟨g, c, e, hFg, hrg, hq1, hq2⟩ := hr.b.wait_at hlt
      injection e with e1 e2 e3
      subst e1
      clear e2 e3
      have hstep : laysBy (kept ks torn s.Q.length) s.Q s.L (k + 1) = layN (laysBy (kept ks torn s.Q.length) s.Q s.L k) (s.Q.getD k (0, [])) (kept ks torn s.Q.length k) := rfl
      obtain ⟨q, hq⟩ : ∃ q, q = s.Q.getD k (0, []) := ⟨_, rfl⟩
      rw [← hq] at hrg hq1 hq2 hstep
      have hqL : q.1 < (laysBy (kept ks torn s.Q.length) s.Q s.L k).length := by rw [show (laysBy (kept ks torn s.Q.length) s.Q s.L k).length = n from hr.b.lenL]; exact hq1
      have hnew := new_range wr q
      have hr2 := hr.alloc (.cells (wcells q).toArray 114)
      have ha2 := ha.alloc (.cells (wcells q).toArray 114)
      have hkA := HK.out.adv ha2 HSEP.out
      have c2 := hr2.c2
      have hlw : IntKind.i64.wrap ((s.Q.length : Int) - 1) = (s.Q.length : Int) - 1 := by rw [IntKind.wrap_i64]; omega
      have hkM : k + 1 ≤ 9223372036854775807 := by omega
      have HR2 := Lib.hid hr2
      have HA2 := Lib.hid ha2
      have HRG := Lib.hid hrg
      have HQ1 := Lib.hid hq1
      have HQ2 := Lib.hid hq2
      have HNEW := Lib.hid hnew
      have HST := Lib.hid hstep
      have HKA := Lib.hid hkA
      have HQL2 := Lib.hid hqL
      clear hr ha hrg hq1 hq2 hnew hq hr2 ha2 hstep hkA hqL hql
      by_cases hT : k + 1 = s.Q.length
      · have hTb : ((k : Int) == (s.Q.length : Int) - 1) = true := by rw [beq_iff_eq]; omega
        have hK0 : kept ks torn s.Q.length k = torn.toNat := by unfold kept; rw [if_pos (by omega)]
        have HK0 := Lib.hid hK0
        clear hK0
        go_wp2_with (first
          | (go_at_call 64; refine (lay_i torn (m := torn.toNat) (by omega) _ _ _ _ _ _ _ _ q _ HR2.out HQ1.out HQ2.out (by omega)).mono ?_; rintro e w2 ⟨rfl, h2, a2⟩; have H2 := Lib.hid h2; have A2 := Lib.hid a2; clear h2 a2)
          | (refine op_load_write rfl _ rfl g (k * 129) q HQ2.out HRG.out rfl ?_)
          | (refine op_load_write rfl _ rfl wr.heap.size 0 q HQ2.out HNEW.out rfl ?_)
          | (refine op_alloc_write rfl rfl ?_)
          | (refine op_store_write rfl _ _ rfl _ rfl q HQ2.out rfl rfl ?_)
          | fail)
        refine ⟨⟨k + 1, by simp, by omega, ?_, HA2.out.trans A2.out⟩, by simp [intOf]; omega⟩
        rw [HST.out, HK0.out]
        exact H2.out
      · have hTb : ((k : Int) == (s.Q.length : Int) - 1) = false := by rw [beq_eq_false_iff_ne]; omega
        have hkept0 : kept ks torn s.Q.length k = if ks.getD k 0 ≠ 0 then 128 else 0 := by unfold kept; rw [if_neg (by omega)]
        by_cases hkm2 : k < m
        · have hki : (k : Int) < (m : Int) := by omega
          obtain ⟨bk, ok, e, _, hcell⟩ := HKA.out.cells (by omega) (by decide)
          subst e
          have kc := hcell k _ (getD_at (by have := HKL.out; omega))
          obtain ⟨x, hx⟩ : ∃ x, x = ks.getD k 0 := ⟨_, rfl⟩
          rw [← hx] at kc hkept0
          clear hcell hx
          by_cases hx0 : x = 0
          · have hxb : (x != 0) = false := by simp [hx0]
            have hK0 : kept ks torn s.Q.length k = 0 := by rw [hkept0, if_neg (by simp [hx0])]
            have HK0 := Lib.hid hK0
            clear hkept0 hK0 hx0
            go_wp2_with (first
              | (refine op_load_write rfl _ rfl g (k * 129) q HQ2.out HRG.out rfl ?_)
              | (refine op_alloc_write rfl rfl ?_)
              | (refine op_store_write rfl _ _ rfl _ rfl q HQ2.out rfl rfl ?_)
              | fail)
            refine ⟨⟨k + 1, by simp, by omega, ?_, HA2.out⟩, by simp [intOf]; omega⟩
            rw [HST.out, HK0.out, layN_zero HQL2.out]
            exact HR2.out
          · have hxb : (x != 0) = true := by simp [hx0]
            have hK0 : kept ks torn s.Q.length k = 128 := by rw [hkept0, if_pos hx0]
            have HK0 := Lib.hid hK0
            clear hkept0 hK0 hx0
            go_wp2_with (first
              | (go_at_call 64; refine (lay_r _ _ _ _ _ _ _ _ q 128 _ HR2.out HQ1.out HQ2.out (Nat.le_refl _)).mono ?_; rintro e w2 ⟨rfl, h2, a2⟩; have H2 := Lib.hid h2; have A2 := Lib.hid a2; clear h2 a2)
              | (refine op_load_write rfl _ rfl g (k * 129) q HQ2.out HRG.out rfl ?_)
              | (refine op_load_write rfl _ rfl wr.heap.size 0 q HQ2.out HNEW.out rfl ?_)
              | (refine op_alloc_write rfl rfl ?_)
              | (refine op_store_write rfl _ _ rfl _ rfl q HQ2.out rfl rfl ?_)
              | fail)
            refine ⟨⟨k + 1, by simp, by omega, ?_, HA2.out.trans A2.out⟩, by simp [intOf]; omega⟩
            rw [HST.out, HK0.out]
            exact H2.out
        · have hki : (m : Int) ≤ (k : Int) := by omega
          have hK0 : kept ks torn s.Q.length k = 0 := by rw [hkept0, List.getD_eq_getElem?_getD, List.getElem?_eq_none (by have := HKL.out; omega)]; simp
          have HK0 := Lib.hid hK0
          clear hkept0 hK0
          go_wp2_with (first
            | (refine op_load_write rfl _ rfl g (k * 129) q HQ2.out HRG.out rfl ?_)
            | (refine op_alloc_write rfl rfl ?_)
            | (refine op_store_write rfl _ _ rfl _ rfl q HQ2.out rfl rfl ?_)
            | fail)
          refine ⟨⟨k + 1, by simp, by omega, ?_, HA2.out⟩, by simp [intOf]; omega⟩
          rw [HST.out, HK0.out, layN_zero HQL2.out]
          exact HR2.out
    · obtain rfl : k = s.Q.length := by omega
      have HR := Lib.hid hr
      have HA := Lib.hid ha
      clear hr ha
      go_wp2_with (first
        | (go_at_call 65; refine (forget_r _ _ _ _ _ _ _ _ _ HR.out).mono ?_; rintro e w2 ⟨rfl, h2, a2⟩; have HB2 := Lib.hid h2.b; have HK2 := Lib.hid h2.blk; have HA2 := Lib.hid a2; have d3 := h2.c3; have d4 := h2.c4; have d5 := h2.c5; have f3 := h2.blk.frozen 3; have f4 := h2.blk.frozen 4; have f5 := h2.blk.frozen 5; clear h2 a2)
        | fail)
      go_end0
      refine ⟨rfl, ?_, ((((HA.out.trans HA2.out).setCell (p := ⟨d, 3, none⟩) (.inl HB2.out.inD) _).setCell (p := ⟨d, 4, none⟩) (.inl HB2.out.inD) _).setCell (p := ⟨d, 5, none⟩) (.inl HB2.out.inD) _)⟩
      have hb := ((HB2.out.set_ 3 (.bool false)).set_ 4 (.bool false)).set_ 5 (.int .i64 0)
      have hk := ((HK2.out.set_ 3 (.bool false)).set_ 4 (.bool false)).set_ 5 (.int .i64 0)
      have e : readTo (laysBy (kept ks torn s.Q.length) s.Q s.L s.Q.length) s.Q (lays s.L s.Q) s.Q.length = laysBy (kept ks torn s.Q.length) s.Q s.L s.Q.length := readTo_all _ _ _
      obtain ⟨LL, hLL⟩ : ∃ LL, LL = laysBy (kept ks torn s.Q.length) s.Q s.L s.Q.length := ⟨_, rfl⟩
      have hcr : crashS s ks torn = ⟨LL, [], false, none⟩ := by rw [hLL]; rfl
      rw [hcr]
      simp only [← hLL] at e hb
      rw [e] at hb
      exact ⟨hk, hb⟩

end Go.Proofs.YtolcnbiaiolcoaaGreat
