/- The disk: Crash, where a write tears. The disk: Waits. The document's Sector; bytes compared; the sectors' lives. The disk's calls on its state; lives. A block of bytes as a slice. The newest head: the program's Load. How many writes wait. -/
import Derived.Test.YtbdjlmdbnoghnaaGreatMh15
import Derived.Test.YtbdjlmdbnoghnaaGreatMh14
import Derived.Deep.QuietTactic
import Derived.BigQuiet
import Derived.Test.YtbdjlmdbnoghnaaGreatMh00
import Derived.Test.YtbdjlmdbnoghnaaGreatMh12
namespace Go.Proofs.YtbdjlmdbnoghnaaGreat
open Go.RowKit

theorem lay_i (mi : Int) {m : Nat} (hmi : mi = (m : Int)) (d gl gr n : Nat) (vQ : Value) (F : Nat → Prop) (R : List (List Nat)) (s : DS) (q : Nat × List Nat) (w : World) (h : DkR w F d gl gr vQ n R s) (hq : q.1 < n) (hl : q.2.length = 128) (hm : m ≤ 128) :
    Calls Tryz.prog 59 #[.pointer (some ⟨d, 0, none⟩), .agg (wcells q).toArray, .int .i64 mi] w fun e w' => e = .returned (.tuple #[]) ∧ DkR w' F d gl gr vQ n R { s with L := layN s.L q m } ∧ Adv F w F w' := by
  subst hmi
  exact lay_r d gl gr n vQ F R s q m w h hq hl hm

set_option maxRecDepth 3000 in
set_option maxHeartbeats 3200000 in
theorem crash_tears (d gl gr n m : Nat) (vQ vk : Value) (F : Nat → Prop) (s : DS) (ks : List Int) (torn : Int) (w : World) (h : DkR w F d gl gr vQ n (lays s.L s.Q) s) (ho : s.ok n) (hk : Rd w 1 vk m (ks.map (Value.int .i64))) (hsep : ∀ k, vk.ownBlock = some k → 0 < m → ¬ F k) (t0 : 0 < torn) (t1 : torn < 128) :
    Calls Tryz.prog 18 #[.pointer (some ⟨d, 0, none⟩), vk, .int .i64 torn] w fun e w' => e = .returned (.tuple #[]) ∧ CrEnd w F d gl gr n s ks torn w' := by
  have c0 := h.c0
  have c2 := h.c2
  obtain ⟨ak, ck, rfl, hkc, hkm⟩ := hk.form
  obtain ⟨aq, cq, rfl, hqc, hqm⟩ := h.b.waits.form0
  unfold maxLen at hqm hkm
  have hkl : ks.length = m := by obtain ⟨_, _, _, _, _, h, _⟩ := hk; simpa using h
  have H := Lib.hid h
  have HO := Lib.hid ho
  have HK := Lib.hid hk
  have HSEP := Lib.hid hsep
  have HKL := Lib.hid hkl
  have HQL := Lib.hid (Nat.le_trans hqc (show cq ≤ 9223372036854775807 by omega))
  clear h ho hk hsep hkl hqc hqm
  go_enter Tryz.func18, Tryz.ntmps18
  go_wp2_with (first
    | (go_at_call 58; refine (made_r _ _ _ _ c0).mono ?_; rintro e w1 ⟨rfl, rfl⟩)
    | fail)
  go_loopw [23] (FlRel w F d gl gr n (.slice aq s.Q.length cq) (lays s.L s.Q) s.L s (kept ks torn s.Q.length)) (fun t _ => s.Q.length - (intOf t).toNat)
  case atStart => exact ⟨0, rfl, Nat.zero_le _, H.out, Adv.refl _ _⟩
  case round =>
    obtain ⟨k, rfl, hkk, hr, ha⟩ := hrel
    clear c2
    by_cases hlt : k < s.Q.length
    · have hql := HQL.out
      obtain ⟨g, c, e, hFg, hrg, hq1, hq2⟩ := hr.b.wait_at hlt
      injection e with e1 e2 e3
      subst e1
      clear e2 e3
      have hstep : laysBy (kept ks torn s.Q.length) s.Q s.L (k + 1) = layN (laysBy (kept ks torn s.Q.length) s.Q s.L k) (s.Q.getD k (0, [])) (kept ks torn s.Q.length k) := rfl
      obtain ⟨q, hq⟩ : ∃ q, q = s.Q.getD k (0, []) := ⟨_, rfl⟩
      rw [← hq] at hrg hq1 hq2 hstep
      have hqL : q.1 < (laysBy (kept ks torn s.Q.length) s.Q s.L k).length := by rw [show (laysBy (kept ks torn s.Q.length) s.Q s.L k).length = n from hr.b.lenL]; exact hq1
      have hnew := new_range wr q
      have hr2 := hr.alloc (.cells (wcells q).toArray 110)
      have ha2 := ha.alloc (.cells (wcells q).toArray 110)
      have hkA := HK.out.adv ha2 HSEP.out
      have c2 := hr2.c2
      have hlw : IntKind.i64.wrap ((s.Q.length : Int) - 1) = (s.Q.length : Int) - 1 := by rw [IntKind.wrap_i64]; omega
      have hkM : k + 1 ≤ 9223372036854775807 := by omega
      have HR2 := Lib.hid hr2
      have HA2 := Lib.hid ha2
      have HRG := Lib.hid hrg
      have HQ1 := Lib.hid hq1
      have HQ2 := Lib.hid hq2
      have HNEW := Lib.hid hnew
      have HST := Lib.hid hstep
      have HKA := Lib.hid hkA
      have HQL2 := Lib.hid hqL
      clear hr ha hrg hq1 hq2 hnew hq hr2 ha2 hstep hkA hqL hql
      by_cases hT : k + 1 = s.Q.length
      · have hTb : ((k : Int) == (s.Q.length : Int) - 1) = true := by rw [beq_iff_eq]; omega
        have hK0 : kept ks torn s.Q.length k = torn.toNat := by unfold kept; rw [if_pos (by omega)]
        have HK0 := Lib.hid hK0
        clear hK0
        go_wp2_with (first
          | (go_at_call 59; refine (lay_i torn (m := torn.toNat) (by omega) _ _ _ _ _ _ _ _ q _ HR2.out HQ1.out HQ2.out (by omega)).mono ?_; rintro e w2 ⟨rfl, h2, a2⟩; have H2 := Lib.hid h2; have A2 := Lib.hid a2; clear h2 a2)
          | (refine op_load_write rfl _ rfl g (k * 129) q HQ2.out HRG.out rfl ?_)
          | (refine op_load_write rfl _ rfl wr.heap.size 0 q HQ2.out HNEW.out rfl ?_)
          | (refine op_alloc_write rfl rfl ?_)
          | (refine op_store_write rfl _ _ rfl _ rfl q HQ2.out rfl rfl ?_)
          | fail)
        refine ⟨⟨k + 1, by simp, by omega, ?_, HA2.out.trans A2.out⟩, by simp [intOf]; omega⟩
        rw [HST.out, HK0.out]
        exact H2.out
      · have hTb : ((k : Int) == (s.Q.length : Int) - 1) = false := by rw [beq_eq_false_iff_ne]; omega
        have hkept0 : kept ks torn s.Q.length k = if ks.getD k 0 ≠ 0 then 128 else 0 := by unfold kept; rw [if_neg (by omega)]
        by_cases hkm2 : k < m
        · have hki : (k : Int) < (m : Int) := by omega
          obtain ⟨bk, ok, e, _, hcell⟩ := HKA.out.cells (by omega) (by decide)
          subst e
          have kc := hcell k _ (getD_at (by have := HKL.out; omega))
          obtain ⟨x, hx⟩ : ∃ x, x = ks.getD k 0 := ⟨_, rfl⟩
          rw [← hx] at kc hkept0
          clear hcell hx
          by_cases hx0 : x = 0
          · have hxb : (x != 0) = false := by simp [hx0]
            have hK0 : kept ks torn s.Q.length k = 0 := by rw [hkept0, if_neg (by simp [hx0])]
            have HK0 := Lib.hid hK0
            clear hkept0 hK0 hx0
            go_wp2_with (first
              | (refine op_load_write rfl _ rfl g (k * 129) q HQ2.out HRG.out rfl ?_)
              | (refine op_alloc_write rfl rfl ?_)
              | (refine op_store_write rfl _ _ rfl _ rfl q HQ2.out rfl rfl ?_)
              | fail)
            refine ⟨⟨k + 1, by simp, by omega, ?_, HA2.out⟩, by simp [intOf]; omega⟩
            rw [HST.out, HK0.out, layN_zero HQL2.out]
            exact HR2.out
          · have hxb : (x != 0) = true := by simp [hx0]
            have hK0 : kept ks torn s.Q.length k = 128 := by rw [hkept0, if_pos hx0]
            have HK0 := Lib.hid hK0
            clear hkept0 hK0 hx0
            go_wp2_with (first
              | (go_at_call 59; refine (lay_r _ _ _ _ _ _ _ _ q 128 _ HR2.out HQ1.out HQ2.out (Nat.le_refl _)).mono ?_; rintro e w2 ⟨rfl, h2, a2⟩; have H2 := Lib.hid h2; have A2 := Lib.hid a2; clear h2 a2)
              | (refine op_load_write rfl _ rfl g (k * 129) q HQ2.out HRG.out rfl ?_)
              | (refine op_load_write rfl _ rfl wr.heap.size 0 q HQ2.out HNEW.out rfl ?_)
              | (refine op_alloc_write rfl rfl ?_)
              | (refine op_store_write rfl _ _ rfl _ rfl q HQ2.out rfl rfl ?_)
              | fail)
            refine ⟨⟨k + 1, by simp, by omega, ?_, HA2.out.trans A2.out⟩, by simp [intOf]; omega⟩
            rw [HST.out, HK0.out]
            exact H2.out
        · have hki : (m : Int) ≤ (k : Int) := by omega
          have hK0 : kept ks torn s.Q.length k = 0 := by rw [hkept0, List.getD_eq_getElem?_getD, List.getElem?_eq_none (by have := HKL.out; omega)]; simp
          have HK0 := Lib.hid hK0
          clear hkept0 hK0
          go_wp2_with (first
            | (refine op_load_write rfl _ rfl g (k * 129) q HQ2.out HRG.out rfl ?_)
            | (refine op_alloc_write rfl rfl ?_)
            | (refine op_store_write rfl _ _ rfl _ rfl q HQ2.out rfl rfl ?_)
            | fail)
          refine ⟨⟨k + 1, by simp, by omega, ?_, HA2.out⟩, by simp [intOf]; omega⟩
          rw [HST.out, HK0.out, layN_zero HQL2.out]
          exact HR2.out
    · obtain rfl : k = s.Q.length := by omega
      have HR := Lib.hid hr
      have HA := Lib.hid ha
      clear hr ha
      go_wp2_with (first
        | (go_at_call 60; refine (forget_r _ _ _ _ _ _ _ _ _ HR.out).mono ?_; rintro e w2 ⟨rfl, h2, a2⟩; have HB2 := Lib.hid h2.b; have HK2 := Lib.hid h2.blk; have HA2 := Lib.hid a2; have d3 := h2.c3; have d4 := h2.c4; have d5 := h2.c5; have f3 := h2.blk.frozen 3; have f4 := h2.blk.frozen 4; have f5 := h2.blk.frozen 5; clear h2 a2)
        | fail)
      go_end0
      refine ⟨rfl, ?_, ((((HA.out.trans HA2.out).setCell (p := ⟨d, 3, none⟩) (.inl HB2.out.inD) _).setCell (p := ⟨d, 4, none⟩) (.inl HB2.out.inD) _).setCell (p := ⟨d, 5, none⟩) (.inl HB2.out.inD) _)⟩
      have hb := ((HB2.out.set_ 3 (.bool false)).set_ 4 (.bool false)).set_ 5 (.int .i64 0)
      have hk := ((HK2.out.set_ 3 (.bool false)).set_ 4 (.bool false)).set_ 5 (.int .i64 0)
      have e : readTo (laysBy (kept ks torn s.Q.length) s.Q s.L s.Q.length) s.Q (lays s.L s.Q) s.Q.length = laysBy (kept ks torn s.Q.length) s.Q s.L s.Q.length := readTo_all _ _ _
      obtain ⟨LL, hLL⟩ : ∃ LL, LL = laysBy (kept ks torn s.Q.length) s.Q s.L s.Q.length := ⟨_, rfl⟩
      have hcr : crashS s ks torn = ⟨LL, [], false, none⟩ := by rw [hLL]; rfl
      rw [hcr]
      simp only [← hLL] at e hb
      rw [e] at hb
      exact ⟨hk, hb⟩

end Go.Proofs.YtbdjlmdbnoghnaaGreat
namespace Go.Proofs.YtbdjlmdbnoghnaaGreat
open Go.RowKit

theorem made_one (z : Value) (hz : z.cells = #[z]) (n : Nat) : (madeCells z.cells (n * 1)).toList = List.replicate n z := by
  rw [hz, Nat.mul_one]
  apply List.ext_getElem?
  intro k
  rw [List.getElem?_replicate]
  by_cases hk : k < n
  · rw [if_pos hk, Array.getElem?_toList]
    have h1 : (Array.range n)[k]? = some k := by rw [Array.getElem?_eq_getElem (by simpa using hk)]; simp
    simp only [madeCells, Array.getElem?_map, h1, Option.map_some]
    have : k % (#[z] : Array Value).size = 0 := by simp [Nat.mod_one]
    rw [this]; rfl
  · rw [if_neg hk, Array.getElem?_toList, Array.getElem?_eq_none (by rw [size_madeCells]; omega)]
end Go.Proofs.YtbdjlmdbnoghnaaGreat
namespace Go.Proofs.YtbdjlmdbnoghnaaGreat
open Go.RowKit

/-- bytes cut, or with noughts behind -/
def sec (l : List Nat) : List Nat := l.take 128 ++ List.replicate (128 - l.length) 0
theorem sec_length (l : List Nat) : (sec l).length = 128 := by simp [sec]; omega

def SecRel (w : World) (b : List Nat) (t : Value) (wr : World) : Prop :=
  ∃ k F, b.length ≤ k ∧ k ≤ 128 ∧ Sl wr F 5 1 t k ((b ++ List.replicate (k - b.length) 0).map u8) ∧ Adv Nul w F wr

def lenOfV : Value → Nat
  | .slice _ n _ => n
  | _ => 0

set_option maxRecDepth 3000 in
set_option maxHeartbeats 800000 in
theorem sector_any (v : Value) (l : List Nat) (w : World) (h : In w v l) :
    Calls Tryz.prog 39 #[v] w fun e w' => ∃ v' F, e = .returned v' ∧ Sl w' F 5 1 v' 128 ((sec l).map u8) ∧ Adv Nul w F w' := by
  obtain ⟨i0, hi, hz0, hz1, hz2⟩ := info_parts Tryz.infoU8
  have HH := Lib.hid h
  clear h
  go_enter Tryz.func39, Tryz.ntmps39
  go_wp2_with (first
    | (go_at_call 41; refine (cut_any v l 128 _ HH.out (by decide)).mono ?_; rintro e w1 ⟨v1, rfl, h1, rfl⟩; have H1 := Lib.hid h1; clear h1)
    | (go_at_call 40; refine (copy_any v1 _ (l.take 128) _ H1.out.rd (by simp; omega)).mono ?_; rintro e w2 ⟨v2, F2, rfl, h2, a2⟩; have H2 := Lib.hid h2; have A2 := Lib.hid a2; clear h2 a2)
    | fail)
  have hb : (l.take 128).length ≤ 128 := by simp; omega
  have hse : l.take 128 ++ List.replicate (128 - (l.take 128).length) 0 = sec l := by
    unfold sec
    rw [List.length_take]
    congr 2
    omega
  obtain ⟨b, hbe⟩ : ∃ b, b = l.take 128 := ⟨_, rfl⟩
  rw [← hbe] at H2 hb hse
  have HB := Lib.hid hb
  have HSE := Lib.hid hse
  clear hb hse hbe
  go_loopw [3] (SecRel w b) (fun t _ => 128 - lenOfV t)
  case atStart => exact ⟨_, F2, Nat.le_refl _, HB.out, by simpa using H2.out, A2.out⟩
  case round =>
    obtain ⟨k, F, hlo, hk, hS, hA⟩ := hrel
    obtain ⟨a5, c5, rfl, _, _⟩ := hS.form0
    have HS := Lib.hid hS
    have HA := Lib.hid hA
    have hown := hS.own
    have HLO := Lib.hid hlo
    clear hS hA hlo
    by_cases hlt : k < 128
    · have hki : (k : Int) < 128 := by omega
      have HLT := Lib.hid hlt
      have HK := Lib.hid hk
      clear hlt hk
      go_wp2_with (first
        | (at_builtin; refine wpList_append_own_at _ rfl (.tmp 10) (.tmp 11) 53 rfl 0 5 i0 (.int .u8 0) 1 1 Tryz.underlying53 hi hz0 hz1 hz2 rfl (by decide) (.slice a5 k c5) k _ rfl (hown.alloc _) ⟨wr.heap.size, 0, none⟩ 1 1 [_] rfl rfl (cell_one_new _ _ _) ?c2 ?c3 ?c4 (Nat.zero_le _) ?c5)
        | fail)
      case c2 => intro u hu; simp at hu; subst hu; rfl
      case c3 => have := HLT.out; unfold maxLen; omega
      case c4 => have := HLT.out; omega
      case c5 =>
        intro v' w1 hown1 hg1 _ hat1
        obtain ⟨h1, h2⟩ := one_grown HS.out HA.out hown1 hg1 hat1 (by omega)
        obtain ⟨a6, c6, rfl, _, _⟩ := h1.form0
        have H1 := Lib.hid h1
        have H2 := Lib.hid h2
        clear h1 h2 hown1 hg1 hat1 hown
        go_wp2
        have hlt := HLT.out
        refine ⟨⟨k + 1, _, by have := HLO.out; omega, by omega, ?_, H2.out⟩, by simp [lenOfV]; omega⟩
        have e : k + 1 - b.length = (k - b.length) + 1 := by have := HLO.out; omega
        rw [e, List.replicate_succ']
        simp only [List.map_append, List.map_replicate, List.map_cons, List.map_nil]
        exact H1.out
    · obtain rfl : k = 128 := by omega
      clear hown
      go_wp2
      go_ret
      have h := HS.out
      rw [HSE.out] at h
      exact ⟨_, F, rfl, h, HA.out⟩
end Go.Proofs.YtbdjlmdbnoghnaaGreat
namespace Go.Proofs.YtbdjlmdbnoghnaaGreat
open Go.RowKit

/-- Crash -/
theorem crash_dk (d n m : Nat) (vk : Value) (F : Nat → Prop) (s : DS) (ks : List Int) (torn : Int) (w : World) (h : Dk w F d n s) (hk : Rd w 1 vk m (ks.map (Value.int .i64))) (hsep : ∀ k, vk.ownBlock = some k → 0 < m → ¬ F k) :
    Calls Tryz.prog 18 #[.pointer (some ⟨d, 0, none⟩), vk, .int .i64 torn] w fun e w' => e = .returned (.tuple #[]) ∧ Dk w' F d n (crashS s ks torn) ∧ Adv F w F w' := by
  have hok := crashS_ok h.1 ks torn
  obtain ⟨ho, gl, gr, vQ, hr⟩ := h
  by_cases h1 : torn ≤ 0
  · refine (crash_low d gl gr n m vQ vk F s ks torn w hr ho hk hsep h1).mono ?_
    rintro e w' ⟨rfl, h2, h3⟩
    exact ⟨rfl, ⟨hok, gl, gr, _, h2⟩, h3⟩
  · by_cases h4 : torn < 128
    · refine (crash_tears d gl gr n m vQ vk F s ks torn w hr ho hk hsep (by omega) h4).mono ?_
      rintro e w' ⟨rfl, h2, h3⟩
      exact ⟨rfl, ⟨hok, gl, gr, _, h2⟩, h3⟩
    · refine (crash_high d gl gr n m vQ vk F s ks torn w hr ho hk hsep (by omega)).mono ?_
      rintro e w' ⟨rfl, h2, h3⟩
      exact ⟨rfl, ⟨hok, gl, gr, _, h2⟩, h3⟩

/-- Read -/
theorem read_dk (d n : Nat) (F : Nat → Prop) (s : DS) (i : Nat) (w : World) (h : Dk w F d n s) (hi : i < n) :
    Calls Tryz.prog 23 #[.pointer (some ⟨d, 0, none⟩), .int .i64 (i : Int)] w fun e w' => ∃ z, e = .returned (.tuple #[.slice (some ⟨z, 0, none⟩) 128 128, .int .i64 0]) ∧ Blk w' z 108 ((isS s i).map u8).toArray ∧ (isS s i).length = 128 ∧ Adv Nul w (fun k => k = z) w' := by
  obtain ⟨ho, gl, gr, vQ, hr⟩ := h
  exact read_r d gl gr n vQ F _ s i w hr hi
theorem read_none (d n : Nat) (F : Nat → Prop) (s : DS) (i : Int) (w : World) (h : Dk w F d n s) (hi : ¬ (0 ≤ i ∧ i < (n : Int))) :
    Calls Tryz.prog 23 #[.pointer (some ⟨d, 0, none⟩), .int .i64 i] w fun e w' => e = .returned (.tuple #[.slice none 0 0, .int .i64 2]) ∧ w = w' := by
  obtain ⟨ho, gl, gr, vQ, hr⟩ := h
  exact read_bad d gl n i w hr.c0 hi
theorem size_dk (d n : Nat) (F : Nat → Prop) (s : DS) (w : World) (h : Dk w F d n s) :
    Calls Tryz.prog 29 #[.pointer (some ⟨d, 0, none⟩)] w fun e w' => e = .returned (.int .i64 (n : Int)) ∧ w = w' := by
  obtain ⟨ho, gl, gr, vQ, hr⟩ := h
  exact size_r d gl n w hr.c0
/-- what is new lies behind what there was -/
theorem Adv.new_at {G : Nat → Prop} {w w' : World} (h : Adv Nul w G w') {k : Nat} (hk : G k) : w.heap.size ≤ k := by
  rcases h.into k hk with h1 | h1
  · exact h1.elim
  · exact h1
end Go.Proofs.YtbdjlmdbnoghnaaGreat
namespace Go.Proofs.YtbdjlmdbnoghnaaGreat
open Go.RowKit

theorem Blk.sl8 {w : World} {z : Nat} {t : TypeId} {l : List Nat} (h : Blk w z t (l.map u8).toArray) (hl : l.length = 128) : Sl w (fun k => k = z) t 1 (.slice (some ⟨z, 0, none⟩) 128 128) 128 (l.map u8) :=
  ⟨⟨by simp [hl], .inr ⟨z, 128, _, rfl, Nat.zero_le _, h, Nat.le_refl _, by decide, by simp [hl], by simp; rw [← hl, ← List.map_take, List.take_length]⟩⟩, fun k hk => by
    have : z = k := by simpa [Value.ownBlock] using hk
    exact this.symm, fun k hk => by rw [hk]; exact h.lt⟩
end Go.Proofs.YtbdjlmdbnoghnaaGreat
namespace Go.Proofs.YtbdjlmdbnoghnaaGreat
open Go.RowKit

def nx (c : Option Hd) (o : Option Hd) : Option Hd := match o with
  | some h => if (c.getD hZ).g ≤ h.g then some h else c
  | none => c
def curAt (s : DS) (p : Nat) : Nat → Option Hd
  | 0 => none
  | k + 1 => nx (curAt s p k) (unO (isS s (p + k)) k)
def inR (n : Nat) (at_ : Int) (k : Nat) : Prop := ∀ j : Nat, j < k → 0 ≤ at_ + (j : Int) ∧ at_ + (j : Int) < (n : Int)
def LoadR (s : DS) (n : Nat) (at_ : Int) (x : Ending) : Prop :=
  (inR n at_ 2 ∧ x = .returned (.tuple #[hv ((curAt s at_.toNat 2).getD hZ), .bool (curAt s at_.toNat 2).isSome, .int .i64 0])) ∨ (¬ inR n at_ 2 ∧ x = .returned (.tuple #[hv hZ, .bool false, .int .i64 2]))
/-- the bytes of a disk are bytes -/
def SB (s : DS) (n : Nat) : Prop := ∀ i, i < n → ∀ x ∈ isS s i, x < 256
/-- after k sectors -/
def HLoadL (w : World) (s : DS) (n : Nat) (at_ : Int) (y z : Nat) (t15 t8 : Value) (wr : World) : Prop :=
  ∃ k : Nat, k ≤ 2 ∧ inR n at_ k ∧ t15 = .int .i64 (k : Int) ∧ t8 = .bool (curAt s at_.toNat k).isSome ∧
    Blk wr y 69 (h3 (((curAt s at_.toNat k).getD hZ).g : Int) (((curAt s at_.toNat k).getD hZ).t : Int) (((curAt s at_.toNat k).getD hZ).f : Int)) ∧ Blk wr z 69 (h3 0 0 0) ∧ Adv (fun j => j = y) w (fun j => j = y) wr
theorem curAt_succ (s : DS) (p k : Nat) : curAt s p (k + 1) = nx (curAt s p k) (unO (isS s (p + k)) k) := rfl

theorem Adv.overN {F G : Nat → Prop} {w w1 w2 : World} (h : Adv F w G w1) (k : Adv Nul w1 Nul w2) : Adv F w G w2 := h.over k
theorem adv_new {w V wr : World} {y : Nat} (ha : Adv Nul w Nul V) (hb : Adv (fun j => j = y) V (fun j => j = y) wr) (hy : w.heap.size ≤ y) : Adv Nul w Nul wr :=
  ⟨hb.os.trans ha.os, hb.tape.trans ha.tape, hb.output.trans ha.output, Nat.le_trans ha.size hb.size, fun j hj _ => (hb.block j (Nat.lt_of_lt_of_le hj ha.size) (fun e => by omega)).trans (ha.block j hj (fun x => x)), fun _ h => h.elim⟩
theorem inR_succ {n : Nat} {at_ : Int} {k : Nat} (h : inR n at_ k) (h1 : 0 ≤ at_ + (k : Int) ∧ at_ + (k : Int) < (n : Int)) : inR n at_ (k + 1) := fun j hj => by
  by_cases e : j = k
  · rw [e]; exact h1
  · exact h j (by omega)
theorem hl_next {w wr : World} {s : DS} {n y z k p : Nat} {at_ : Int} {c : Option Hd} {g t f : Nat} {b : Bool} (hk : k < 2) (hin : inR n at_ k) (hq : at_ + (k : Int) = (p : Int)) (hp : p < n) (hc : nx (curAt s at_.toNat k) (unO (isS s p) k) = c)
    (h1 : g = (c.getD hZ).g) (h2 : t = (c.getD hZ).t) (h3' : f = (c.getD hZ).f) (h4 : b = c.isSome) (hby : Blk wr y 69 (h3 (g : Int) (t : Int) (f : Int))) (hbz : Blk wr z 69 (h3 0 0 0)) (ha : Adv (fun j => j = y) w (fun j => j = y) wr) :
    HLoadL w s n at_ y z (.int .i64 ((k : Int) + 1)) (.bool b) wr := by
  have h0 : at_.toNat + k = p := by
    by_cases hk0 : k = 0
    · subst hk0; omega
    · have := hin 0 (by omega); omega
  have e : curAt s at_.toNat (k + 1) = c := by rw [curAt_succ, h0]; exact hc
  subst h1 h2 h3' h4
  refine ⟨k + 1, by omega, inR_succ hin (by omega), by go_num, by rw [e], by rw [e]; exact hby, hbz, ha⟩

set_option maxRecDepth 3000 in
set_option maxHeartbeats 6400000 in
theorem hload_dk (d n : Nat) (F : Nat → Prop) (s : DS) (at_ : Int) (w : World) (hd : Dk w F d n s) (hsb : SB s n) (hn : n ≤ 4096) (ha0 : -9223372036854775808 ≤ at_) (ha1 : at_ < 9223372036854775808) :
    Calls Tryz.prog 31 #[.pointer (some ⟨d, 0, none⟩), .int .i64 at_] w fun x w' => LoadR s n at_ x ∧ Adv Nul w Nul w' := by
  obtain ⟨z, hz⟩ : ∃ z, z = w.heap.size := ⟨_, rfl⟩
  obtain ⟨V0, hV0⟩ : ∃ V, V = w.alloc (.cells #[.int .u64 0, .int .u64 0, .int .u64 0] 69) := ⟨_, rfl⟩
  obtain ⟨y, hy⟩ : ∃ y, y = V0.heap.size := ⟨_, rfl⟩
  obtain ⟨V, hV⟩ : ∃ V, V = V0.alloc (.cells #[.int .u64 0, .int .u64 0, .int .u64 0] 69) := ⟨_, rfl⟩
  have HZ := Lib.hid (show Blk V z 69 (h3 0 0 0) by rw [hV, hV0, hz]; exact (Blk.new _ _ _).alloc _)
  have HY := Lib.hid (show Blk V y 69 (h3 0 0 0) by rw [hV, hy]; exact Blk.new _ _ _)
  have HA := Lib.hid (show Adv Nul w Nul V by rw [hV, hV0]; exact ((Adv.refl _ _).alloc _).alloc _)
  have HYZ := Lib.hid (show y ≠ z by rw [hy, hz, hV0]; simp)
  have HWZ := Lib.hid (show w.heap.size ≤ z by rw [hz]; exact Nat.le_refl _)
  have HWY := Lib.hid (show w.heap.size ≤ y by rw [hy, hV0]; simp)
  have hd1 := hd.far HA.out (fun _ h _ => h)
  have HD := Lib.hid hd1
  have HFY := Lib.hid (show ∀ j, j = y → F j → False from fun j e h => by have := hd.bd j h; have := HWY.out; omega)
  have HSB := Lib.hid hsb
  have hy1 : y = z + 1 := by rw [hy, hz, hV0]; simp
  have HY1 := Lib.hid hy1
  have HV := Lib.hid (show V = (w.alloc (.cells #[.int .u64 0, .int .u64 0, .int .u64 0] 69)).alloc (.cells #[.int .u64 0, .int .u64 0, .int .u64 0] 69) by rw [hV, hV0])
  have HZZ := Lib.hid hz
  have hnI : (n : Int) ≤ 4096 := by omega
  have HA0 := Lib.hid ha0
  have HA1 := Lib.hid ha1
  clear hd hd1 hsb hn hy1 hV hV0 hz hy ha0 ha1
  go_enter Tryz.func31, Tryz.ntmps31
  go_upto_region 2 with (fail)
  rw [← HV.out, ← HZZ.out, ← HY1.out]
  go_wp2_with fail
  go_loopw [15, 8] (HLoadL V s n at_ y z) (fun t _ _ => 2 - (intOf t).toNat)
  case atStart => exact ⟨0, by decide, fun j h => absurd h (Nat.not_lt_zero _), rfl, rfl, HY.out, HZ.out, Adv.refl _ _⟩
  case round =>
    obtain ⟨k, hk, hin, rfl, rfl, hby, hbz, had⟩ := hrel
    obtain ⟨cur, hcur⟩ : ∃ c, c = curAt s at_.toNat k := ⟨_, rfl⟩
    obtain ⟨cg, hcg⟩ : ∃ x, x = (cur.getD hZ).g := ⟨_, rfl⟩
    obtain ⟨ct, hct⟩ : ∃ x, x = (cur.getD hZ).t := ⟨_, rfl⟩
    obtain ⟨cf, hcf⟩ : ∃ x, x = (cur.getD hZ).f := ⟨_, rfl⟩
    obtain ⟨cb, hcb⟩ : ∃ x, x = cur.isSome := ⟨_, rfl⟩
    rw [← hcur, ← hcg, ← hct, ← hcf] at hby
    rw [← hcur, ← hcb]
    have HCUR := Lib.hid hcur
    have HCG := Lib.hid hcg
    have HCT := Lib.hid hct
    have HCF := Lib.hid hcf
    have HCB := Lib.hid hcb
    have HBY := Lib.hid hby
    have HBZ := Lib.hid hbz
    have HAD := Lib.hid had
    have HIN := Lib.hid hin
    have HDW := Lib.hid (HD.out.far had HFY.out)
    clear hcur hcg hct hcf hcb hby hbz had hin
    by_cases hlt : k < 2
    · have hki : (k : Int) < 2 := by omega
      have hw1 : IntKind.i64.wrap (at_ + (k : Int)) = at_ + (k : Int) := by
        rw [IntKind.wrap_i64]
        have h0 := HA0.out
        have h1 := HA1.out
        by_cases hk0 : k = 0
        · subst hk0; omega
        · have := HIN.out 0 (by omega)
          omega
      have HLT := Lib.hid hlt
      obtain ⟨q, hq⟩ : ∃ q, q = at_ + (k : Int) := ⟨_, rfl⟩
      rw [← hq] at hw1
      have HQ := Lib.hid hq
      have hq' : at_ + (k : Int) = q := hq.symm
      clear hlt hk hq
      by_cases hr : 0 ≤ q ∧ q < (n : Int)
      · obtain ⟨p, rfl⟩ := Int.eq_ofNat_of_zero_le hr.1
        have HPN := Lib.hid (show p < n by omega)
        clear hr
        go_wp2_with fail
        refine (read_dk d n F s p wr HDW.out HPN.out).mono ?_
        rintro e w2 ⟨z2, rfl, hb2, hl2, a2⟩
        have HR2 := Lib.hid ((hb2.sl8 hl2).rd)
        have HA2 := Lib.hid (a2.sub (G := Nul) (fun _ h => h.elim))
        clear hb2 hl2 a2
        go_wp2_with fail
        refine (hunseal_any _ 128 (isS s p) w2 HR2.out (HSB.out p HPN.out)).mono ?_
        intro x w3 h
        obtain ⟨⟨g, t, f⟩, ok, rfl, hun, a3⟩ := h
        simp only
        obtain ⟨u, hu⟩ : ∃ u, u = w3.heap.size := ⟨_, rfl⟩
        obtain ⟨w4, hw4⟩ : ∃ w4, w4 = w3.alloc (.cells #[.int .u64 (g : Int), .int .u64 (t : Int), .int .u64 (f : Int)] 69) := ⟨_, rfl⟩
        have HU := Lib.hid (show Blk w4 u 69 #[.int .u64 (g : Int), .int .u64 (t : Int), .int .u64 (f : Int)] by rw [hw4, hu]; exact Blk.new _ _ _)
        have HA4 := Lib.hid (show Adv Nul wr Nul w4 by rw [hw4]; exact (HA2.out.trans a3).alloc _)
        have HBY4 := Lib.hid (HBY.out.keep (HA4.out.block y HBY.out.lt (fun h => h)))
        have HBZ4 := Lib.hid (HBZ.out.keep (HA4.out.block z HBZ.out.lt (fun h => h)))
        have HAD4 := Lib.hid (HAD.out.overN HA4.out)
        have HUN := Lib.hid hun
        have HUU := Lib.hid hu
        have HW4 := Lib.hid hw4
        clear hun a3 hu hw4
        go_upto_region 9 with (fail)
        rw [← HW4.out, ← HUU.out]
        obtain ⟨u0, u1, u2⟩ := HU.out.three
        cases ok with
        | false =>
          have hno : unHd (isS s p) = none := by have h := HUN.out; simpa using h
          have hnx : nx (curAt s at_.toNat k) (unO (isS s p) k) = cur := by rw [unO_none hno, ← HCUR.out]; rfl
          have HNX := Lib.hid hnx
          clear hno hnx
          go_wp2_with fail
          have hlt := HLT.out
          exact ⟨hl_next hlt HIN.out hq' HPN.out HNX.out HCG.out HCT.out HCF.out HCB.out HBY4.out HBZ4.out HAD4.out, by simp [intOf]; omega⟩
        | true =>
          have hyes : unHd (isS s p) = some ⟨g, t, f⟩ := by have h := HUN.out; simpa using h
          have HYES := Lib.hid hyes
          obtain ⟨r, hr⟩ : ∃ r, r = g % 2 := ⟨_, rfl⟩
          have HRR := Lib.hid hr
          clear hyes hr
          go_wp2_with fail
          refine (place_any g t f _).mono ?_
          rintro x w5 ⟨rfl, a5⟩
          rw [← HRR.out]
          have HU5 := Lib.hid (HU.out.keep (a5.block u HU.out.lt (fun h => h)))
          have HBY5 := Lib.hid (HBY4.out.keep (a5.block y HBY4.out.lt (fun h => h)))
          have HBZ5 := Lib.hid (HBZ4.out.keep (a5.block z HBZ4.out.lt (fun h => h)))
          have HAD5 := Lib.hid (HAD4.out.overN a5)
          obtain ⟨v0, v1, v2⟩ := HU5.out.three
          obtain ⟨y0, y1, y2⟩ := HBY5.out.three
          clear u0 u1 u2 a5
          by_cases hpar : r = k
          · have hpe : ((r : Int) == (k : Int)) = true := by rw [beq_iff_eq]; omega
            have HPAR := Lib.hid (show (⟨g, t, f⟩ : Hd).g % 2 = k by show g % 2 = k; rw [← HRR.out]; exact hpar)
            clear hpar
            by_cases hge : cg ≤ g
            · have hgi : (cg : Int) ≤ (g : Int) := by omega
              have hnx : nx (curAt s at_.toNat k) (unO (isS s p) k) = some ⟨g, t, f⟩ := by
                rw [unO_yes HYES.out HPAR.out, ← HCUR.out]
                exact if_pos (by rw [← HCG.out]; exact hge)
              have HNX := Lib.hid hnx
              clear hge hnx
              go_wp2_with (first
                | (refine op_store3 sizeHead rfl (.tmp 7) (.tmp 49) rfl y _ (h3 (g : Int) (t : Int) (f : Int)) HBY5.out rfl rfl (h3_one _ _ _) rfl rfl ?_)
                | fail)
              have hlt := HLT.out
              exact ⟨hl_next hlt HIN.out hq' HPN.out HNX.out rfl rfl rfl rfl (HBY5.out.putAll rfl) (HBZ5.out.keep (lsetCells_heap y HYZ.out.symm _ 0 _)) (Adv.lsetCells _ 0 _ HAD5.out (.inl rfl)), by simp [intOf]; omega⟩
            · have hgi : (g : Int) < (cg : Int) := by omega
              have hnx : nx (curAt s at_.toNat k) (unO (isS s p) k) = cur := by
                rw [unO_yes HYES.out HPAR.out, ← HCUR.out]
                exact if_neg (by rw [← HCG.out]; exact hge)
              have HNX := Lib.hid hnx
              clear hge hnx
              go_wp2_with fail
              have hlt := HLT.out
              exact ⟨hl_next hlt HIN.out hq' HPN.out HNX.out HCG.out HCT.out HCF.out HCB.out HBY5.out HBZ5.out HAD5.out, by simp [intOf]; omega⟩
          · have hpe : ((r : Int) == (k : Int)) = false := by rw [beq_eq_false_iff_ne]; omega
            have hnx : nx (curAt s at_.toNat k) (unO (isS s p) k) = cur := by
              rw [unO_no HYES.out (by show g % 2 ≠ k; rw [← HRR.out]; exact hpar), ← HCUR.out]
              rfl
            have HNX := Lib.hid hnx
            clear hpar hnx
            go_wp2_with fail
            have hlt := HLT.out
            exact ⟨hl_next hlt HIN.out hq' HPN.out HNX.out HCG.out HCT.out HCF.out HCB.out HBY5.out HBZ5.out HAD5.out, by simp [intOf]; omega⟩
      · have HNR := Lib.hid hr
        clear hr
        go_wp2_with fail
        refine (read_none d n F s q wr HDW.out HNR.out).mono ?_
        rintro e w2 ⟨rfl, rfl⟩
        have HFIN := Lib.hid (show LoadR s n at_ (.returned (.tuple #[.agg #[.int .u64 0, .int .u64 0, .int .u64 0], .bool false, .int .i64 2])) from .inr ⟨fun h => HNR.out (by have h1 := h k HLT.out; rw [hq'] at h1; exact h1), rfl⟩)
        go_wp2_with (first
          | (refine op_store3 sizeHead rfl (.tmp 4) (.tmp 28) rfl z _ (h3 0 0 0) HBZ.out rfl rfl (h3_one _ _ _) rfl rfl ?_)
          | fail)
        obtain ⟨hz0, hz1, hz2⟩ := (HBZ.out.putAll (D := h3 0 0 0) rfl).three
        exact bodyPost_ret (v := .tuple #[.agg #[.int .u64 0, .int .u64 0, .int .u64 0], .bool false, .int .i64 2]) (by simp [results, Tryz.results31, go_sem, hz0, hz1, hz2]) rfl ⟨HFIN.out, Adv.lsetCells _ 0 _ (adv_new HA.out HAD.out HWY.out) (.inr HWZ.out)⟩
    · obtain rfl : k = 2 := by omega
      have HFIN := Lib.hid (show LoadR s n at_ (.returned (.tuple #[.agg #[.int .u64 (cg : Int), .int .u64 (ct : Int), .int .u64 (cf : Int)], .bool cb, .int .i64 0])) from .inl ⟨HIN.out, by rw [HCG.out, HCT.out, HCF.out, HCB.out, ← HCUR.out]; rfl⟩)
      obtain ⟨y0, y1, y2⟩ := HBY.out.three
      clear hlt hk
      go_wp2_with (first
        | (refine op_store3 sizeHead rfl (.tmp 4) (.tmp 51) rfl z _ (h3 (cg : Int) (ct : Int) (cf : Int)) HBZ.out rfl rfl (h3_one _ _ _) rfl rfl ?_)
        | fail)
      obtain ⟨hz0, hz1, hz2⟩ := (HBZ.out.putAll (D := h3 (cg : Int) (ct : Int) (cf : Int)) rfl).three
      exact bodyPost_ret (v := .tuple #[.agg #[.int .u64 (cg : Int), .int .u64 (ct : Int), .int .u64 (cf : Int)], .bool cb, .int .i64 0]) (by simp [results, Tryz.results31, go_sem, hz0, hz1, hz2]) rfl ⟨HFIN.out, Adv.lsetCells _ 0 _ (adv_new HA.out HAD.out HWY.out) (.inr HWZ.out)⟩
end Go.Proofs.YtbdjlmdbnoghnaaGreat
namespace Go.Proofs.YtbdjlmdbnoghnaaGreat
open Go.RowKit

theorem few_write (s : DS) (i : Int) (b : List Nat) : (writeS s i b).1.Q.length ≤ s.Q.length + 1 := by
  unfold writeS
  split
  · exact Nat.le_succ _
  · split
    · simp
    · simp [stepS_Q]
theorem few_flush (s : DS) : (flushS s).1.Q.length ≤ s.Q.length := by
  unfold flushS
  split
  · simp
  · simp [stepS_Q]
theorem few_fuse (s : DS) (k : Int) : (fuseS s k).1.Q.length ≤ s.Q.length := by
  unfold fuseS
  split
  · simp
  · split <;> simp
theorem few_crash (s : DS) (ks : List Int) (torn : Int) : (crashS s ks torn).Q.length ≤ s.Q.length := by simp [crashS]
end Go.Proofs.YtbdjlmdbnoghnaaGreat
