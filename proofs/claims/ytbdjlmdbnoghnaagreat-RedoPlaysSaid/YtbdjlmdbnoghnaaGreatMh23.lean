/- What a ring says. replay. A disk that no call made; DiskNobody. Open. lives: something is written at all. All sectors of a disk: sectors. What a crash leaves of a sector, as numbers. -/
import Derived.Test.YtbdjlmdbnoghnaaGreatMh20
import Derived.Test.YtbdjlmdbnoghnaaGreatMh22
import Derived.Test.YtbdjlmdbnoghnaaGreatMh16
import Derived.Deep.DeepCutAuto
import Derived.Test.YtbdjlmdbnoghnaaGreatMh12
namespace Go.Proofs.YtbdjlmdbnoghnaaGreat
open Go.RowKit Go.Maps

structure Rp where
  next : Nat
  floor : Nat
  A : Nat → Option (List Nat)
def RecOk (s : DS) (n : Nat) (H : Int) (r : Rp) : Prop := JoinOk (scanV s n r.next) ∧ r.floor ≤ (hdP (scanV s n r.next)).e ∧ decE (allD (scanV s n r.next)) = 0 ∧ isTx (decP (allD (scanV s n r.next))) H
instance (s : DS) (n : Nat) (H : Int) (r : Rp) : Decidable (RecOk s n H r) := by
  unfold RecOk
  exact inferInstance
/-- behind one record more -/
def nextR (s : DS) (n : Nat) (r : Rp) : Rp := ⟨r.next + (scanV s n r.next).length, (hdP (scanV s n r.next)).e, putA r.A (decP (allD (scanV s n r.next)))⟩
def saysR (s : DS) (n : Nat) (H : Int) : Nat → Rp → Rp
  | 0, r => r
  | f + 1, r => if RecOk s n H r then saysR s n H f (nextR s n r) else r
theorem scan_some {s : DS} {n : Nat} : ∀ {f c : Nat} {ps : List Pc}, scan s n f c = some ps → ps = preP s n c ps.length ∧ (∀ i, i < ps.length → goodP s n (c + i)) ∧ 1 ≤ ps.length ∧ ps.length ≤ f
  | 0, c, ps, h => by cases h
  | f + 1, c, ps, h => by
    unfold scan at h
    split at h
    · rename_i hg
      split at h
      · injection h with h
        subst h
        refine ⟨by simp [preP], fun i hi => ?_, by simp, by simp⟩
        have : i = 0 := by simpa using hi
        subst this
        exact hg
      · rw [Option.map_eq_some_iff] at h
        obtain ⟨qs, hq, rfl⟩ := h
        obtain ⟨h1, h2, h3, h4⟩ := scan_some hq
        refine ⟨?_, fun i hi => ?_, by simp, by simp; omega⟩
        · have e : preP s n c (qs.length + 1) = dec (rdP s n c) :: preP s n (c + 1) qs.length := by
            unfold preP
            rw [List.range_succ_eq_map, List.map_cons, List.map_map]
            congr 1
            apply List.map_congr_left
            intro i _
            simp only [Function.comp_apply, Nat.succ_eq_add_one, show c + 1 + i = c + (i + 1) by omega]
          rw [List.length_cons, e, ← h1]
        · cases i with
          | zero => exact hg
          | succ i =>
            have := h2 i (by simpa using hi)
            rwa [show c + 1 + i = c + (i + 1) by omega] at this
    · cases h
theorem scanV_good {s : DS} {n c : Nat} : scanV s n c = preP s n c (scanV s n c).length ∧ (∀ i, i < (scanV s n c).length → goodP s n (c + i)) := by
  cases h : scan s n (n + 1) c with
  | none =>
    have e : scanV s n c = [] := by unfold scanV; rw [h]; rfl
    rw [e]
    exact ⟨rfl, fun i hi => absurd hi (by simp)⟩
  | some ps =>
    have e : scanV s n c = ps := by unfold scanV; rw [h]; rfl
    rw [e]
    exact ⟨(scan_some h).1, (scan_some h).2.1⟩
theorem JoinOk.pos {ps : List Pc} (h : JoinOk ps) : 1 ≤ ps.length := h.1
/-- the ring holds no two counts at one place -/
theorem good_le {s : DS} {n t u : Nat} (hn : 1 ≤ n) (h : ∀ c, t ≤ c → c < u → goodP s n c) : u ≤ t + n := by
  rcases Nat.lt_or_ge (t + n) u with h1 | h1
  · have h0 := (h t (Nat.le_refl _) (by omega)).2
    have h2 := (h (t + n) (by omega) h1).2
    have e : rdP s n (t + n) = rdP s n t := by unfold rdP; rw [Nat.add_mod_right]
    rw [e, h0] at h2
    omega
  · exact h1
/-- k records are done -/
structure SaysK (s : DS) (n : Nat) (H : Int) (r0 : Rp) (k : Nat) (r : Rp) : Prop where
  res : saysR s n H (n + 1) r0 = saysR s n H (n + 1 - k) r
  good : ∀ c, r0.next ≤ c → c < r.next → goodP s n c
  le : r0.next + k ≤ r.next
  A : AOk H.toNat r0.A → 0 ≤ H → AOk H.toNat r.A
theorem SaysK.zero (s : DS) (n : Nat) (H : Int) (r : Rp) : SaysK s n H r 0 r := ⟨rfl, fun c h1 h2 => absurd h2 (by omega), Nat.le_refl _, fun h _ => h⟩
theorem SaysK.top {s : DS} {n : Nat} {H : Int} {r0 r : Rp} {k : Nat} (h : SaysK s n H r0 k r) (hn : 1 ≤ n) : r.next ≤ r0.next + n := good_le hn h.good
theorem decP_bytes (l : List Nat) : ∀ p ∈ decP l, ∀ x ∈ p.d, x < 256 := fun p hp x hx => by
  unfold decP at hp
  obtain ⟨i, _, rfl⟩ := List.mem_map.mp hp
  unfold decT at hx
  obtain ⟨j, _, rfl⟩ := List.mem_map.mp hx
  unfold decX bitsAt
  exact Nat.mod_lt _ (by decide)
theorem AOk.putA {M : Nat} {H : Int} : ∀ {ps : List Pt} {A : Nat → Option (List Nat)}, AOk M A → (∀ p ∈ ps, (0 ≤ p.a ∧ p.a < H) ∧ p.d.length = 128) → (∀ p ∈ ps, ∀ x ∈ p.d, x < 256) → H.toNat ≤ M → AOk M (putA A ps)
  | [], _, h, _, _, _ => h
  | p :: ps, A, h, h1, h2, hM => by
    have hp := h1 p (by simp)
    exact AOk.putA (ps := ps) (h.set (i := p.a.toNat) (x := p.d) (by omega) hp.2 (h2 p (by simp))) (fun q hq => h1 q (by simp [hq])) (fun q hq => h2 q (by simp [hq])) hM
theorem SaysK.step {s : DS} {n : Nat} {H : Int} {r0 r : Rp} {k : Nat} (h : SaysK s n H r0 k r) (hn : 1 ≤ n) (ho : RecOk s n H r) : SaysK s n H r0 (k + 1) (nextR s n r) ∧ k < n := by
  have hp := ho.1.pos
  have hg : ∀ c, r0.next ≤ c → c < (nextR s n r).next → goodP s n c := fun c h1 h2 => by
    by_cases hc : c < r.next
    · exact h.good c h1 hc
    · have := (scanV_good (s := s) (n := n) (c := r.next)).2 (c - r.next) (by show c - r.next < _; unfold nextR at h2; simp only at h2; omega)
      rwa [show r.next + (c - r.next) = c by omega] at this
  have ht := good_le hn hg
  have hl := h.le
  have hnx : (nextR s n r).next = r.next + (scanV s n r.next).length := rfl
  have hk : k < n := by omega
  refine ⟨⟨?_, hg, by omega, fun hA hH => ?_⟩, hk⟩
  · rw [h.res, show n + 1 - k = (n - k) + 1 by omega, show n + 1 - (k + 1) = n - k by omega]
    show (if RecOk s n H r then _ else _) = _
    rw [if_pos ho]
  · exact (h.A hA hH).putA (fun p hp => (ho.2.2.2.row p hp)) (decP_bytes _) (Nat.le_refl _)
theorem SaysK.stop {s : DS} {n : Nat} {H : Int} {r0 r : Rp} {k : Nat} (h : SaysK s n H r0 k r) (hn : 1 ≤ n) (ho : ¬ RecOk s n H r) : saysR s n H (n + 1) r0 = r := by
  have hl := h.le
  have ht := h.top hn
  rw [h.res, show n + 1 - k = (n - k) + 1 by omega]
  show (if RecOk s n H r then _ else _) = _
  rw [if_neg ho]
theorem scanV_len {s : DS} {n c : Nat} (hn : 1 ≤ n) : (scanV s n c).length ≤ n := by
  have := good_le (s := s) (t := c) (u := c + (scanV s n c).length) hn (fun x h1 h2 => by
    have := (scanV_good (s := s) (n := n) (c := c)).2 (x - c) (by omega)
    rwa [show c + (x - c) = x by omega] at this)
  omega
theorem scanV_bytes {s : DS} {n c N : Nat} (h : SB s N) (hn : 1 ≤ n) (hN : n + 2 ≤ N) : B8 (scanV s n c) := fun p hp => by
  rw [scanV_good.1] at hp
  unfold preP at hp
  obtain ⟨i, _, rfl⟩ := List.mem_map.mp hp
  intro x hx
  have hs := h (2 + (c + i) % n) (by have := Nat.mod_lt (c + i) hn; omega)
  unfold dec at hx
  exact hs x (List.mem_of_mem_drop (List.mem_of_mem_take hx))
theorem scanV_small {s : DS} {n c : Nat} : ∀ p ∈ scanV s n c, p.d.length ≤ 1000 := fun p hp => by
  have h0 := hp
  rw [scanV_good.1] at hp
  unfold preP at hp
  obtain ⟨i, hi, rfl⟩ := List.mem_map.mp hp
  have hg := ((scanV_good (s := s) (n := n) (c := c)).2 i (by simpa using hi)).1
  have := hg.2.1
  unfold dec
  rw [List.length_take, List.length_drop]
  have := hg.1
  omega
end Go.Proofs.YtbdjlmdbnoghnaaGreat
namespace Go.Proofs.YtbdjlmdbnoghnaaGreat
open Go.RowKit Go.Maps

def LS.at_ (g : LS) (r : Rp) : LS := { g with next := r.next, A := r.A }
def r0G (g : LS) : Rp := ⟨g.next, g.h.f, g.A⟩
def ReR (w : World) (F : Nat → Prop) (d l b n N : Nat) (s : DS) (g : LS) (e : Ending) (w' : World) : Prop := e = .returned (.tuple #[]) ∧ Rs w' F d l b n N s g ∧ Adv (LF l b) w (LF l b) w'
def ReL (w : World) (F : Nat → Prop) (d l b n N : Nat) (s : DS) (g : LS) (t2 : Value) (wr : World) : Prop :=
  ∃ (k : Nat) (r : Rp), t2 = .int .u64 (r.floor : Int) ∧ SaysK s n ((N - 2 - n : Nat) : Int) (r0G g) k r ∧ Rs wr F d l b n N s (g.at_ r) ∧ Adv (LF l b) w (LF l b) wr
theorem lnext {w : World} {l b d n N : Nat} {g : LS} (h : Lg w l b d n N g) : (intOf ((w.cell? ⟨l, 5, none⟩).getD undef)).toNat = g.next := by
  rw [h.cells.2.2.2.2.2.1]; rfl
theorem join_yes {ps : List Pc} (h : JoinOk ps) : joinV ps = allD ps ∧ joinE ps = 0 := ⟨if_pos h, if_pos h⟩
theorem join_not {ps : List Pc} (h : ¬ JoinOk ps) : joinE ps = 4 := if_neg h
theorem allD_bytes {ps : List Pc} (h : B8 ps) : ∀ x ∈ allD ps, x < 256 := fun x hx => by
  unfold allD at hx
  obtain ⟨p, hp, hx⟩ := List.mem_flatMap.mp hx
  exact h p hp x hx

set_option maxRecDepth 3000 in
set_option maxHeartbeats 12800000 in
theorem greplay_lg (l b d n N : Nat) (g : LS) (F : Nat → Prop) (s : DS) (w : World) (h : Rs w F d l b n N s g) (hsb : SB s N) (hn : 2 ≤ n ∧ n + 3 ≤ N ∧ N ≤ 900) (ht : g.next ≤ 1099511627776) :
    Calls Tryz.prog 32 #[.pointer (some ⟨l, 0, none⟩)] w (ReR w F d l b n N s (g.at_ (saysR s n ((N - 2 - n : Nat) : Int) (n + 1) (r0G g)))) := by
  obtain ⟨R, hR⟩ : ∃ R, R = g.at_ (saysR s n ((N - 2 - n : Nat) : Int) (n + 1) (r0G g)) := ⟨_, rfl⟩
  rw [← hR]
  have HR := Lib.hid hR
  have HS := Lib.hid h
  have HSB := Lib.hid hsb
  have HN := Lib.hid hn
  have HT := Lib.hid ht
  have c4 := h.lg.cells.2.2.2.2.1
  obtain ⟨fl, hfl⟩ : ∃ x, x = g.h.f := ⟨_, rfl⟩
  rw [← hfl] at c4
  have HFL := Lib.hid hfl
  clear h hsb hn ht hR hfl
  go_enter Tryz.func32, Tryz.ntmps32
  go_wp2_with fail
  go_loopw [2] (ReL w F d l b n N s g) (fun _ wr => g.next + n + 1 - (intOf ((wr.cell? ⟨l, 5, none⟩).getD undef)).toNat)
  case atStart => exact ⟨0, r0G g, by rw [HFL.out]; rfl, SaysK.zero _ _ _ _, HS.out, Adv.refl _ _⟩
  case round =>
    obtain ⟨k, r, rfl, hsy, hrs, ha⟩ := hrel
    obtain ⟨rn, rf, rA⟩ := r
    have htop := hsy.top (by have := HN.out; omega)
    have hrn : rn ≤ g.next + n := htop
    obtain ⟨ps, hps⟩ : ∃ ps, ps = scanV s n rn := ⟨_, rfl⟩
    have HPC := Lib.hid (gpieces_lg l b d n N (g.at_ ⟨rn, rf, rA⟩) F s wr hrs HSB.out (by have := HN.out; omega) (by have := HT.out; have := HN.out; show rn ≤ _; omega))
    rw [show scanV s n (g.at_ ⟨rn, rf, rA⟩).next = ps from hps.symm] at HPC
    have HB8 := Lib.hid (show B8 ps by rw [hps]; exact scanV_bytes HSB.out (by have := HN.out; omega) (by have := HN.out; omega))
    have HSM := Lib.hid (show ∀ p ∈ ps, p.d.length ≤ 1000 by rw [hps]; exact scanV_small)
    have HLN := Lib.hid (show ps.length ≤ n by rw [hps]; exact scanV_len (by have := HN.out; omega))
    have HSY := Lib.hid hsy
    have HRS := Lib.hid hrs
    have HA := Lib.hid ha
    have HPS := Lib.hid hps
    have HRN := Lib.hid hrn
    have HSTOP := Lib.hid (show ¬ RecOk s n ((N - 2 - n : Nat) : Int) ⟨rn, rf, rA⟩ → ∀ w', Adv Nul wr Nul w' → ReR w F d l b n N s R (.returned (.tuple #[])) w' from fun hno w' a => by
      have e := hsy.stop (by have := HN.out; omega) hno
      rw [HR.out, e]
      exact ⟨rfl, hrs.over a, ha.trans (a.same (fun _ x => x.elim))⟩)
    obtain ⟨m, hm⟩ : ∃ m, m = ps.length := ⟨_, rfl⟩
    have HM := Lib.hid hm
    clear hsy hrs ha hps htop hrn hm c4
    go_wp2_with fail
    refine HPC.out.mono ?_
    rintro e w1 ⟨A1, k1, rfl, p1, n1, a1⟩
    have HP1 := Lib.hid p1
    have HN1 := Lib.hid n1
    have HA1 := Lib.hid a1
    have HJ := Lib.hid (pjoin_any A1 k1 ps w1 p1 HB8.out (by have := HLN.out; have := HN.out; omega) HSM.out)
    rw [← HM.out] at HJ HN1 HP1 ⊢
    clear p1 n1 a1
    go_wp2_with fail
    refine HJ.out.mono ?_
    rintro e w2 ⟨A2, k2, rfl, r2, a2⟩
    have HA2 := Lib.hid (HA1.out.trans a2)
    have hp2 := HP1.out.step a2
    have HP2 := Lib.hid hp2
    by_cases hj : JoinOk ps
    · rw [(join_yes hj).1] at r2 ⊢
      rw [(join_yes hj).2]
      have h1 := hj.pos
      obtain ⟨b1, o1, q1, q1', rfl, hb1, hc5, -⟩ := hp2.row (i := 0) (by omega)
      obtain ⟨e0, he0⟩ : ∃ x, x = (hdP ps).e := ⟨_, rfl⟩
      have hhd : ps[0]'(by omega) = hdP ps := by
        unfold hdP
        cases ps with
        | nil => simp at h1
        | cons p ps => rfl
      have c10 : w2.cell? ⟨b1, o1, none⟩ = some (.int .u64 (e0 : Int)) := by
        have := hc5.1
        rw [hhd, ← he0, Nat.zero_mul, Nat.add_zero] at this
        exact this
      have hm1 : (1 : Int) ≤ (m : Int) := by have := HM.out; omega
      have hm0 : (0 : Int) < (m : Int) := by omega
      obtain ⟨D, hD⟩ : ∃ D, D = allD ps := ⟨_, rfl⟩
      rw [← hD] at r2 ⊢
      have hDl : D.length ≤ 8192 := by rw [hD]; exact hj.2.2
      have HDC := Lib.hid (gdecode_any _ D w2 r2 (by rw [hD]; exact allD_bytes HB8.out) (by omega))
      obtain ⟨dl, hdl⟩ : ∃ x, x = D.length := ⟨_, rfl⟩
      rw [← hdl] at HDC ⊢
      have HJO := Lib.hid hj
      have HE0 := Lib.hid he0
      have HD := Lib.hid hD
      have HB1 := Lib.hid hb1
      clear r2 a2 hp2 hj h1 hc5 he0 hhd hD hDl hdl hb1
      by_cases hef : e0 < rf
      · have hefI : (e0 : Int) < (rf : Int) := by omega
        have HF := Lib.hid (HSTOP.out (fun ho => by have := ho.2.1; rw [← HPS.out, ← HE0.out] at this; simp only at this; omega) _ HA2.out)
        clear hef
        go_wp2_with fail
        go_end0
        exact HF.out
      · have hefI : (rf : Int) ≤ (e0 : Int) := by omega
        have HEF := Lib.hid (show rf ≤ e0 by omega)
        have hnf : ((e0 : Int) < (rf : Int)) = False := eq_false (by omega)
        clear hef
        go_wp2_with fail
        refine HDC.out.mono ?_
        rintro e w3 ⟨z, rfl, q3, a3⟩
        have HA3 := Lib.hid (HA2.out.trans a3)
        have HQ3 := Lib.hid (q3 (LF l b) (HRS.out.over HA2.out).lg.bd)
        have HA23 := Lib.hid a3
        obtain ⟨B, hB⟩ : ∃ B, B = decide (decE D = 0) := ⟨_, rfl⟩
        rw [← hB]
        obtain ⟨gl, hgl⟩ : ∃ x, x = (gP D).length := ⟨_, rfl⟩
        rw [← hgl] at HQ3 ⊢
        have HB := Lib.hid hB
        clear a3 q3 hB hgl
        cases B with
        | false =>
          have HF := Lib.hid (HSTOP.out (fun ho => of_decide_eq_false HB.out.symm (by have := ho.2.2.1; rw [← HPS.out, ← HD.out] at this; exact this)) _ HA3.out)
          go_wp2_with fail
          go_end0
          exact HF.out
        | true =>
          have HDE := Lib.hid (of_decide_eq_true HB.out.symm)
          have HS3 := Lib.hid (HRS.out.over HA3.out)
          have HHM := Lib.hid (ghomes_lg HS3.out.lg HS3.out.dk (by have := HN.out; omega) (by have := HN.out; omega))
          obtain ⟨Hm, hHm⟩ : ∃ x, x = N - 2 - n := ⟨_, rfl⟩
          rw [← hHm] at HHM
          have HHm := Lib.hid hHm
          clear hHm
          go_wp2_with fail
          refine HHM.out.mono ?_
          rintro e w4 ⟨rfl, k4, rfl⟩
          have HA4 := Lib.hid (HA3.out.drewN k4)
          have hq4 := HQ3.out.step ((Adv.refl Nul w3).drewN k4)
          have HTX := Lib.hid (istx_any _ gl gl (gP D) (Hm : Int) _ (w3.drewN k4) hq4)
          obtain ⟨C, hC⟩ : ∃ C, C = decide (isTx (gP D) (Hm : Int)) := ⟨_, rfl⟩
          rw [← hC] at HTX
          have HC := Lib.hid hC
          have HQ4 := Lib.hid hq4
          clear hq4 hC
          go_wp2_with fail
          refine HTX.out.mono ?_
          rintro e w5 ⟨rfl, a5⟩
          have HA5 := Lib.hid (HA4.out.trans a5)
          have HQ5 := Lib.hid (HQ4.out.step a5)
          have HA35 := Lib.hid (HA23.out.trans (((Adv.refl Nul w3).drewN k4).trans a5))
          clear a5
          cases C with
          | false =>
            have HF := Lib.hid (HSTOP.out (fun ho => of_decide_eq_false HC.out.symm (by have := ho.2.2.2; rw [← HPS.out, ← HD.out, ← gP_dec HDE.out, ← HHm.out] at this; exact this)) _ HA5.out)
            go_wp2_with fail
            go_end0
            exact HF.out
          | true =>
            have HTR := Lib.hid (of_decide_eq_true HC.out.symm)
            have HS5 := Lib.hid (HRS.out.over HA5.out)
            have hrec : RecOk s n ((N - 2 - n : Nat) : Int) ⟨rn, rf, rA⟩ := by
              refine ⟨?_, ?_, ?_, ?_⟩
              · simp only; rw [← HPS.out]; exact HJO.out
              · simp only; rw [← HPS.out, ← HE0.out]; exact HEF.out
              · simp only; rw [← HPS.out, ← HD.out]; exact HDE.out
              · simp only; rw [← HPS.out, ← HD.out, ← gP_dec HDE.out, ← HHm.out]; exact HTR.out
            have hst := HSY.out.step (by have := HN.out; omega) hrec
            have hnx : nextR s n ⟨rn, rf, rA⟩ = ⟨rn + m, e0, putA rA (gP D)⟩ := by
              unfold nextR
              simp only
              rw [← HPS.out, ← HM.out, ← HE0.out, ← HD.out, gP_dec HDE.out]
            rw [hnx] at hst
            have HST := Lib.hid hst
            have HTK := Lib.hid (gtake_lg l b d n N m (g.at_ ⟨rn, rf, rA⟩) _ gl gl (gP D) w5 HS5.out.lg HQ5.out (by rw [← HHm.out]; exact HTR.out) (by have := HN.out; omega) (by have := HRN.out; have := HT.out; have := HLN.out; have := HM.out; have := HN.out; show rn + m < _; omega))
            have HC5 := Lib.hid (show w5.cell? ⟨b1, o1, none⟩ = some (.int .u64 (e0 : Int)) by rw [← c10]; exact World.cell?_of_block (HA35.out.block b1 HB1.out (fun x => x)))
            have HB5 := Lib.hid (show b1 < w5.heap.size from Nat.lt_of_lt_of_le HB1.out HA35.out.size)
            have HNB := Lib.hid (show ¬ LF l b b1 from fun x => by have := HRS.out.lg.bd b1 x; have := HN1.out b1 rfl; omega)
            clear hrec hst hnx c10
            go_wp2_with fail
            refine HTK.out.mono ?_
            rintro e w6 ⟨rfl, l6, a6⟩
            have c10 : w6.cell? ⟨b1, o1, none⟩ = some (.int .u64 (e0 : Int)) := by rw [← HC5.out]; exact World.cell?_of_block (a6.block b1 HB5.out HNB.out)
            have HS6 := Lib.hid (show Rs w6 F d l b n N s (g.at_ ⟨rn + m, e0, putA rA (gP D)⟩) from HS5.out.log a6 l6)
            have HA6 := Lib.hid (HA.out.trans ((HA5.out.same (fun _ x => x.elim)).trans a6))
            clear l6 a6
            go_wp2_with fail
            refine ⟨⟨k + 1, _, rfl, HST.out.1, HS6.out, HA6.out⟩, ?_⟩
            rw [lnext HS6.out.lg, lnext HRS.out.lg]
            have h1 := HST.out.1.top (by have := HN.out; omega)
            have h2 := HJO.out.pos
            have h3 := HM.out
            have h4 : rn + m ≤ g.next + n := h1
            show g.next + n + 1 - (rn + m) < g.next + n + 1 - rn
            omega
    · rw [join_not hj]
      have HF := Lib.hid (HSTOP.out (fun ho => hj (by have := ho.1; rw [← HPS.out] at this; exact this)) _ HA2.out)
      obtain ⟨jl, hjl⟩ : ∃ x, x = (joinV ps).length := ⟨_, rfl⟩
      rw [← hjl] at r2 ⊢
      clear r2 a2 hp2 hj hjl
      go_wp2_with fail
      go_end0
      exact HF.out
end Go.Proofs.YtbdjlmdbnoghnaaGreat
namespace Go.Proofs.YtbdjlmdbnoghnaaGreat
open Go.RowKit
end Go.Proofs.YtbdjlmdbnoghnaaGreat
namespace Go.Proofs.YtbdjlmdbnoghnaaGreat
open Go.RowKit Go.Maps

theorem unHd_small {l : List Nat} {h : Hd} (hl : ∀ x ∈ l, x < 256) (e : unHd l = some h) : h.g ≤ 1099511627775 ∧ h.t < 1099511627776 ∧ h.f < 16777216 := by
  unfold unHd at e
  split at e
  · rename_i hc
    injection e with e
    subst e
    have h8 : ∀ x ∈ (dec l).d, x < 256 := fun x hx => by
      unfold dec at hx
      exact hl x (List.mem_of_mem_drop (List.mem_of_mem_take hx))
    have hv := val_lt8 hc.2.2.2 h8
    refine ⟨?_, ?_, ?_⟩
    · show (dec l).c ≤ _
      unfold dec
      simp only
      omega
    · show val (dec l).d / 16777216 < _
      omega
    · show val (dec l).d % 16777216 < _
      omega
  · cases e
theorem curAt_small {s : DS} {N p : Nat} (hsb : SB s N) : ∀ {k : Nat} {h : Hd}, p + k ≤ N → curAt s p k = some h → h.g ≤ 1099511627775 ∧ h.t < 1099511627776 ∧ h.f < 16777216
  | 0, h, _, e => by cases e
  | k + 1, h, hk, e => by
    have e1 : nx (curAt s p k) (unO (isS s (p + k)) k) = some h := e
    cases ho : unO (isS s (p + k)) k with
    | none => rw [ho] at e1; exact curAt_small hsb (by omega) e1
    | some h' =>
      have hu : unHd (isS s (p + k)) = some h' := by
        unfold unO at ho
        rw [Option.bind_eq_some_iff] at ho
        obtain ⟨x, h1, h2⟩ := ho
        split at h2
        · injection h2 with h2; rw [← h2]; exact h1
        · cases h2
      have hs := unHd_small (hsb (p + k) (by omega)) hu
      rw [ho] at e1
      unfold nx at e1
      simp only at e1
      split at e1
      · injection e1 with e1; rw [← e1]; exact hs
      · exact curAt_small hsb (by omega) e1
/-- the head that a disk has; none: Tail 0, Floor 1 -/
def headO (s : DS) : Hd := (curAt s 0 2).getD ⟨0, 0, 1⟩
def openL (s : DS) (n : Nat) : LS := ⟨headO s, (headO s).t, topE s (2 + n) + 1, fun _ => none, 0⟩
/-- the log that is opened -/
def openS (s : DS) (n N : Nat) : LS := (openL s n).at_ (saysR s n ((N - 2 - n : Nat) : Int) (n + 1) (r0G (openL s n)))
theorem headO_small {s : DS} {N : Nat} (hsb : SB s N) (hN : 2 ≤ N) : (headO s).g ≤ 1099511627775 ∧ (headO s).t < 1099511627776 ∧ (headO s).f < 16777216 := by
  unfold headO
  cases h : curAt s 0 2 with
  | none => simp
  | some x => exact curAt_small hsb (by omega) h
def OpR (w : World) (F : Nat → Prop) (d N : Nat) (s : DS) (n : Int) (e : Ending) (w' : World) : Prop :=
  (¬ (2 ≤ n ∧ n + 3 ≤ (N : Int)) ∧ e = .returned (.tuple #[.pointer none, .int .i64 2]) ∧ Adv Nul w Nul w') ∨
  ((2 ≤ n ∧ n + 3 ≤ (N : Int)) ∧ topE s (2 + n.toNat) = 16777215 ∧ e = .returned (.tuple #[.pointer none, .int .i64 8]) ∧ Adv Nul w Nul w') ∨
  ((2 ≤ n ∧ n + 3 ≤ (N : Int)) ∧ topE s (2 + n.toNat) < 16777215 ∧ ∃ l b, e = .returned (.tuple #[.pointer (some ⟨l, 0, none⟩), .int .i64 0]) ∧ Rs w' F d l b n.toNat N s (openS s n.toNat N) ∧ (w.heap.size ≤ l ∧ w.heap.size ≤ b) ∧ Adv Nul w Nul w')
set_option maxRecDepth 3000 in
set_option maxHeartbeats 6400000 in
theorem gopen_dk (d N : Nat) (F : Nat → Prop) (s : DS) (n : Int) (w : World) (h : Dk w F d N s) (hsb : SB s N) (hN : 1 ≤ N ∧ N ≤ 900) (hn0 : -9223372036854775808 ≤ n) (hn1 : n < 9223372036854775808) :
    Calls Tryz.prog 7 #[.pointer (some ⟨d, 0, none⟩), .int .i64 n] w (OpR w F d N s n) := by
  have HSZ := Lib.hid (size_dk d N F s w h)
  have HD := Lib.hid h
  have HSB := Lib.hid hsb
  have HN := Lib.hid hN
  have hNb : ((N : Int) == 0) = false := by rw [beq_eq_false_iff_ne]; omega
  have hw2 : IntKind.i64.wrap ((N : Int) - 2) = (N : Int) - 2 := by rw [IntKind.wrap_i64]; omega
  have hw3 : IntKind.i64.wrap ((N : Int) - 2 - 1) = (N : Int) - 2 - 1 := by rw [IntKind.wrap_i64]; omega
  clear h hsb hN
  by_cases hn : 2 ≤ n ∧ n + 3 ≤ (N : Int)
  · obtain ⟨m, rfl⟩ := Int.eq_ofNat_of_zero_le (show 0 ≤ n by omega)
    have hmN : m + 3 ≤ N := by have := hn.2; omega
    have hm2 : 2 ≤ m := by have := hn.1; omega
    have hm2I : (2 : Int) ≤ (m : Int) := hn.1
    have hmI : (m : Int) ≤ (N : Int) - 2 - 1 := by omega
    have hwm : IntKind.i64.wrap (2 + (m : Int)) = ((2 + m : Nat) : Int) := by rw [IntKind.wrap_i64]; have := HN.out; omega
    have HTOP := Lib.hid (gtop_dk d N (2 + m) F s w HD.out HSB.out (by omega) (by have := HN.out; omega))
    have HM := Lib.hid (And.intro hm2 hmN)
    have HNN := Lib.hid hn
    have hIN : inR N 0 2 := fun j hj => by omega
    obtain ⟨T, hT⟩ : ∃ x, x = topE s (2 + m) := ⟨_, rfl⟩
    have hTlt : T < 16777216 := by rw [hT]; exact topE_lt HSB.out _ (by omega)
    rw [← hT] at HTOP
    have HT := Lib.hid hT
    have HTL := Lib.hid hTlt
    have HIN := Lib.hid hIN
    have hmm := @run_makeMap Tryz.prog
    clear hn hn0 hn1 hmN hm2 hT hTlt hIN
    go_enter Tryz.func7, Tryz.ntmps7
    go_wp2_with fail
    refine HSZ.out.mono ?_
    rintro e w1 ⟨rfl, rfl⟩
    go_wp2_with fail
    refine HSZ.out.mono ?_
    rintro e w1 ⟨rfl, rfl⟩
    go_wp2_with fail
    refine HTOP.out.mono ?_
    rintro e w1 ⟨rfl, a1⟩
    have HA1 := Lib.hid a1
    clear a1
    by_cases hTm : T = 16777215
    · subst hTm
      have HF := Lib.hid (show OpR w F d N s (m : Int) (.returned (.tuple #[.pointer none, .int .i64 8])) w1 from .inr (.inl ⟨HNN.out, HT.out.symm, rfl, HA1.out⟩))
      go_wp2_with fail
      exact bodyPost_ret (v := .tuple #[.pointer none, .int .i64 8]) (by simp [results, Tryz.results7, go_sem]) rfl HF.out
    · have hTb : ((T : Int) == 16777215) = false := by rw [beq_eq_false_iff_ne]; omega
      have hwT : IntKind.u64.wrap ((T : Int) + 1) = (T : Int) + 1 := by rw [IntKind.wrap_u64]; have := HTL.out; omega
      have HTN := Lib.hid (show T < 16777215 by have := HTL.out; omega)
      have HLD := Lib.hid (hload_dk d N F s 0 w1 (HD.out.far HA1.out (fun _ x _ => x)) HSB.out (by have := HN.out; omega) (by decide) (by decide))
      clear hTm
      go_wp2_with fail
      refine HLD.out.mono ?_
      rintro e w2 ⟨hl2, a2⟩
      rcases hl2 with ⟨_, rfl⟩ | ⟨hbad, _⟩
      · have HA2 := Lib.hid (HA1.out.trans a2)
        obtain ⟨c, hc⟩ : ∃ c, c = curAt s 0 2 := ⟨_, rfl⟩
        rw [show ((0 : Int).toNat) = 0 from rfl, ← hc]
        obtain ⟨⟨g, t, f⟩, hh⟩ : ∃ x, x = c.getD hZ := ⟨_, rfl⟩
        rw [← hh]
        have HC := Lib.hid hc
        have HH := Lib.hid hh
        obtain ⟨V, hV⟩ : ∃ V, V = w2.alloc (.cells #[.int .u64 (g : Int), .int .u64 (t : Int), .int .u64 (f : Int)] 69) := ⟨_, rfl⟩
        obtain ⟨z, hz⟩ : ∃ z, z = w2.heap.size := ⟨_, rfl⟩
        have HZ := Lib.hid (show Blk V z 69 (h3 (g : Int) (t : Int) (f : Int)) by rw [hV, hz]; exact Blk.new _ _ _)
        have HAV := Lib.hid (HA2.out.trans (show Adv Nul w2 Nul V by rw [hV]; exact (Adv.refl _ _).alloc _))
        have HWZ := Lib.hid (show w.heap.size ≤ z by rw [hz]; exact HA2.out.size)
        have HVV := Lib.hid hV
        have HZZ := Lib.hid hz
        clear a2 hc hh hV hz
        unfold hv
        simp only
        go_upto_region 9 with (fail)
        rw [← HVV.out, ← HZZ.out]
        go_upto_if 40 with (fail)
        go_cut [] (fun wr => Blk wr z 69 (h3 ((headO s).g : Int) ((headO s).t : Int) ((headO s).f : Int)) ∧ Adv Nul w Nul wr)
        case first =>
          have hcs := HC.out
          have hhs := HH.out
          cases c with
          | none =>
            have e : headO s = ⟨0, 0, 1⟩ := by unfold headO; rw [← hcs]; rfl
            have HE := Lib.hid e
            clear hcs hhs e
            go_wp2_with (first
              | (refine op_store3 sizeHead rfl (.tmp 7) (.tmp 41) rfl z _ (h3 0 0 1) HZ.out rfl rfl (h3_one _ _ _) rfl rfl ?_)
              | fail)
            go_meet
            rw [HE.out]
            exact ⟨HZ.out.putAll rfl, Adv.lsetCells _ 0 _ HAV.out (.inr HWZ.out)⟩
          | some x =>
            have e : headO s = ⟨g, t, f⟩ := by
              unfold headO
              rw [← hcs]
              exact hhs.symm
            have HE := Lib.hid e
            clear hcs hhs e
            go_wp2_with fail
            go_meet
            rw [HE.out]
            exact ⟨HZ.out, HAV.out⟩
        case rest =>
        obtain ⟨hzb, hac⟩ := hcut
        obtain ⟨⟨g1, t1, f1⟩, hhd⟩ : ∃ x, x = headO s := ⟨_, rfl⟩
        rw [← hhd] at hzb
        obtain ⟨z0, z1, z2⟩ := hzb.three
        have HHD := Lib.hid hhd
        have HAC := Lib.hid hac
        clear hzb hac hhd
        go_upto_region 14 with (fail)
        obtain ⟨W, hW⟩ : ∃ W, W = (wc.alloc (.map #[] 0)).alloc (.cells #[.pointer (some ⟨d, 0, none⟩), .int .i64 (m : Int), .int .u64 (g1 : Int), .int .u64 (t1 : Int), .int .u64 (f1 : Int), .int .u64 (t1 : Int), .int .u64 ((T : Int) + 1), .map (some wc.heap.size), .int .i64 0] 74) := ⟨_, rfl⟩
        obtain ⟨l, hl⟩ : ∃ l, l = wc.heap.size + 1 := ⟨_, rfl⟩
        rw [← hW, ← hl]
        have haw : Adv Nul wc Nul W := by rw [hW]; exact ((Adv.refl _ _).alloc _).alloc _
        have hopen : openL s m = ⟨⟨g1, t1, f1⟩, t1, T + 1, fun _ => none, 0⟩ := by unfold openL; rw [← HHD.out, ← HT.out]
        have HS2 := Lib.hid (show Rs W F d l wc.heap.size m N s (openL s m) from by
          refine ⟨HD.out.far (HAC.out.trans haw) (fun _ x _ => x), ⟨?_, ?_⟩, fun j hf hj => ?_⟩
          · have hb := Blk.new (wc.alloc (.map #[] 0)) 74 #[.pointer (some ⟨d, 0, none⟩), .int .i64 (m : Int), .int .u64 (g1 : Int), .int .u64 (t1 : Int), .int .u64 (f1 : Int), .int .u64 (t1 : Int), .int .u64 ((T : Int) + 1), .map (some wc.heap.size), .int .i64 0]
            rw [← hW] at hb
            have hsz : (wc.alloc (.map #[] 0)).heap.size = l := by rw [hl]; simp
            rw [hsz] at hb
            rw [hopen]
            exact hb
          · rw [hopen, hW]
            exact (Mp.new wc (N - 2 - m)).keep (Below.heap_alloc _ _ _ (by simp))
          · have h1 := HD.out.bd j hf
            have h2 := HAC.out.size
            rcases hj with e | e <;> omega)
        have HA9 := Lib.hid (HAC.out.trans haw)
        have HNEW := Lib.hid (show w.heap.size ≤ l ∧ w.heap.size ≤ wc.heap.size from ⟨by have := HAC.out.size; omega, HAC.out.size⟩)
        have HRP := Lib.hid (greplay_lg l wc.heap.size d m N (openL s m) F s W HS2.out HSB.out (by have := HM.out; have := HN.out; omega) (by have := headO_small HSB.out (by have := HM.out; omega); show (headO s).t ≤ _; omega))
        clear hW hl haw hopen z0 z1 z2 hmm
        go_wp2_with fail
        refine HRP.out.mono ?_
        rintro e w9 ⟨rfl, h9, a9⟩
        have HF := Lib.hid (show OpR w F d N s (m : Int) (.returned (.tuple #[.pointer (some ⟨l, 0, none⟩), .int .i64 0])) w9 by
          refine .inr (.inr ⟨HNN.out, by rw [Int.toNat_natCast, ← HT.out]; exact HTN.out, l, wc.heap.size, rfl, by rw [Int.toNat_natCast]; exact h9, HNEW.out, ?_⟩)
          exact ⟨a9.os.trans HA9.out.os, a9.tape.trans HA9.out.tape, a9.output.trans HA9.out.output, Nat.le_trans HA9.out.size a9.size, fun j hj _ => (a9.block j (Nat.lt_of_lt_of_le hj HA9.out.size) (fun x => by have := HNEW.out; rcases x with e | e <;> omega)).trans (HA9.out.block j hj (fun x => x)), fun _ x => x.elim⟩)
        clear h9 a9
        go_wp2_with fail
        exact bodyPost_ret (v := .tuple #[.pointer (some ⟨l, 0, none⟩), .int .i64 0]) (by simp [results, Tryz.results7, go_sem]) rfl HF.out
      · exact absurd HIN.out hbad
  · have HF := Lib.hid (show OpR w F d N s n (.returned (.tuple #[.pointer none, .int .i64 2])) w from .inl ⟨hn, rfl, Adv.refl _ _⟩)
    by_cases h2 : n < 2
    · clear hn
      go_enter Tryz.func7, Tryz.ntmps7
      go_wp2_with fail
      refine HSZ.out.mono ?_
      rintro e w1 ⟨rfl, rfl⟩
      go_wp2_with fail
      exact bodyPost_ret (v := .tuple #[.pointer none, .int .i64 2]) (by simp [results, Tryz.results7, go_sem]) rfl HF.out
    · have h2' : 2 ≤ n := by omega
      have h3 : (N : Int) - 2 - 1 < n := by omega
      clear hn h2
      go_enter Tryz.func7, Tryz.ntmps7
      go_wp2_with fail
      refine HSZ.out.mono ?_
      rintro e w1 ⟨rfl, rfl⟩
      go_wp2_with fail
      refine HSZ.out.mono ?_
      rintro e w1 ⟨rfl, rfl⟩
      go_wp2_with fail
      exact bodyPost_ret (v := .tuple #[.pointer none, .int .i64 2]) (by simp [results, Tryz.results7, go_sem]) rfl HF.out
end Go.Proofs.YtbdjlmdbnoghnaaGreat
namespace Go.Proofs.YtbdjlmdbnoghnaaGreat
open Go.RowKit Go.Maps

theorem saysR_A {s : DS} {n M : Nat} : ∀ {f : Nat} {r : Rp}, AOk M r.A → AOk M (saysR s n (M : Int) f r).A
  | 0, r, h => h
  | f + 1, r, h => by
    show AOk M (if RecOk s n (M : Int) r then saysR s n (M : Int) f (nextR s n r) else r).A
    split
    · rename_i ho
      refine saysR_A (f := f) ?_
      exact h.putA (fun p hp => (ho.2.2.2.row p hp)) (decP_bytes _) (by omega)
    · exact h
theorem openS_A (s : DS) (n N : Nat) : AOk (N - 2 - n) (openS s n N).A := saysR_A (AOk.none _)
theorem SB_of {s : DS} {N : Nat} (h : (List.range N).all (fun i => (isS s i).all (fun x => decide (x < 256))) = true) : SB s N := fun i hi x hx => by
  have h1 := List.all_eq_true.mp h i (List.mem_range.mpr hi)
  have h2 := List.all_eq_true.mp h1 x hx
  exact of_decide_eq_true h2

def lv7 : List Nat := 7 :: List.replicate 127 0
def lvP : List Pt := [⟨1, lv7⟩]
def lv0 : DS := newS 12
def lvG0 : LS := openS lv0 4 12
def lvW : (DS × LS) × Int := writeG lv0 4 12 lvG0 lvP
def lvS : (DS × LS) × Int := syncG lvW.1.1 lvW.1.2
def lvG1 : LS := openS lvS.1.1 4 12
theorem lv_t0 : topE lv0 6 = 0 := by kernel_rfl
theorem lv_g0 : lvG0.next = 0 ∧ lvG0.h = ⟨0, 0, 1⟩ ∧ lvG0.ep = 1 ∧ lvG0.err = 0 := by refine ⟨?_, ?_, ?_, ?_⟩ <;> kernel_rfl
theorem lv_w : lvW.2 = 0 := by kernel_rfl
theorem lv_s : lvS.2 = 0 := by kernel_rfl
theorem lv_t1 : topE lvS.1.1 6 = 1 := by kernel_rfl
theorem lv_b : lvG1.A 1 = some lv7 := by kernel_rfl
theorem lv_sb0 : SB lv0 12 := SB_of (by kernel_rfl)
theorem lv_sb1 : SB lvS.1.1 12 := SB_of (by kernel_rfl)
theorem lv_ok0 : GOk 4 12 lv0 lvG0 := by
  obtain ⟨h1, h2, h3, h4⟩ := lv_g0
  exact ⟨by decide, by show [].length ≤ _; decide, by rw [h1, h2]; decide, by rw [h1, h2]; decide, by rw [h1]; decide, by rw [h3]; decide⟩
theorem lv_home : homeG lvS.1.1 4 lvG1 1 = lv7 := by unfold homeG; rw [lv_b]; rfl

set_option maxRecDepth 3000 in
set_option maxHeartbeats 6400000 in
theorem glives_any (w : World) : Calls Tryz.prog 28 #[] w fun e w' => e = .returned (.bool true) ∧ Adv Nul w Nul w' := by
  have HNEW := Lib.hid (new_r 12 (by decide) (by decide) w)
  go_enter Tryz.func28, Tryz.ntmps28
  go_wp2_with fail
  refine HNEW.out.mono ?_
  rintro e w1 ⟨d, F, rfl, k1, a1⟩
  have HOP := Lib.hid (gopen_dk d 12 F lv0 4 w1 k1 lv_sb0 (by decide) (by decide) (by decide))
  have HA1 := Lib.hid (a1.sub (G := Nul) (fun _ x => x.elim))
  have HF1 := Lib.hid (show ∀ j, F j → w.heap.size ≤ j from fun j hj => by
    rcases a1.into j hj with h | h
    · exact h.elim
    · exact h)
  clear k1 a1
  go_wp2_with fail
  refine HOP.out.mono ?_
  intro e w2 h2
  rcases h2 with ⟨hb, -⟩ | ⟨-, ht, -⟩ | ⟨-, -, l, b, rfl, rs2, nw2, a2⟩
  · exact absurd (by decide) hb
  · exact absurd ht (by rw [show topE lv0 (2 + (4 : Int).toNat) = 0 from lv_t0]; decide)
  have rs2' : Rs w2 F d l b 4 12 lv0 lvG0 := rs2
  have HS2 := Lib.hid rs2'
  have HA2 := Lib.hid (HA1.out.trans a2)
  have HN2 := Lib.hid (show w.heap.size ≤ l ∧ w.heap.size ≤ b from ⟨Nat.le_trans HA1.out.size nw2.1, Nat.le_trans HA1.out.size nw2.2⟩)
  have hin : In (w2.alloc (.cells #[.int .u8 7] 5)) (.slice (some ⟨w2.heap.size, 0, none⟩) 1 1) [7] := by
    refine In.of_rd ⟨_, 1, rfl, Nat.le_refl _, by decide, rfl, fun e => (by cases e), fun _ => ⟨_, rfl, by simp, fun j u hu => ?_⟩⟩ (by decide)
    have e : (⟨w2.heap.size, 0, none⟩ : Addr).add j = ⟨w2.heap.size, j, none⟩ := by rw [add_none, Nat.zero_add]
    rw [e, (Blk.new w2 5 #[.int .u8 7]).cell, List.getElem?_toArray]
    exact hu
  have HSC := Lib.hid (sector_any _ [7] _ hin)
  clear rs2 rs2' nw2 a2 hin
  go_wp2_with fail
  refine HSC.out.mono ?_
  rintro e w4 ⟨v4, F4, rfl, s4, a4⟩
  obtain ⟨A4, c4, rfl, _, _⟩ := s4.form0
  obtain ⟨W, hW⟩ : ∃ W, W = w4.alloc (.cells #[.int .i64 1, .slice A4 128 c4] 90) := ⟨_, rfl⟩
  obtain ⟨z, hz⟩ : ∃ z, z = w4.heap.size := ⟨_, rfl⟩
  have ha4 : Adv Nul w2 Nul w4 := ((Adv.refl Nul w2).alloc _).trans (a4.sub (fun _ x => x.elim))
  have haw : Adv Nul w4 Nul W := by rw [hW]; exact (Adv.refl _ _).alloc _
  have HSW := Lib.hid (HS2.out.over (ha4.trans haw))
  have HAW := Lib.hid (HA2.out.trans (ha4.trans haw))
  have hzb : Blk W z 90 #[.int .i64 1, .slice A4 128 c4] := by rw [hW, hz]; exact Blk.new _ _ _
  have hq : QRd W (UF F l b) (.slice (some ⟨z, 0, none⟩) 1 1) lvP := by
    have hbd := HS2.out.bd
    refine ⟨_, 1, rfl, Nat.le_refl _, by decide, fun _ => ⟨z, 0, rfl, ⟨hzb.lt, fun x => by have := hbd z x; have := ha4.size; omega⟩, fun i hi => ?_⟩⟩
    obtain rfl : i = 0 := by have : i < 1 := hi; omega
    refine ⟨A4, c4, hzb.cell 0, hzb.cell 1, s4.rd.far (fun _ _ _ h => haw.block _ h (fun h => h)) haw.size, fun j hj _ x => ?_⟩
    have h1 := hbd j x
    rcases a4.into j (s4.inF j hj) with h | h
    · exact h
    · simp at h; omega
  have HWR := Lib.hid (gwrite_lg l b d 4 12 lvG0 F lv0 (some ⟨z, 0, none⟩) 1 1 lvP W HSW.out lv_ok0 hq (by intro p hp; rw [List.mem_singleton.mp hp]; decide))
  have HW := Lib.hid hW
  have HZ := Lib.hid hz
  clear s4 a4 ha4 haw hzb hq hW hz
  go_wp2_with fail
  rw [← HW.out, ← HZ.out]
  refine HWR.out.mono ?_
  rintro e w5 ⟨rfl, F5, rs5, a5⟩
  rw [show (writeG lv0 4 12 lvG0 lvP).2 = 0 from lv_w]
  have rs5' : Rs w5 F5 d l b 4 12 lvW.1.1 lvW.1.2 := rs5
  have HSY := Lib.hid (gsync_lg l b d 4 12 lvW.1.2 F5 lvW.1.1 w5 rs5')
  have HA5 := Lib.hid a5
  clear rs5 rs5' a5
  go_wp2_with fail
  refine HSY.out.mono ?_
  rintro e w6 ⟨rfl, F6, rs6, a6⟩
  rw [show (syncG lvW.1.1 lvW.1.2).2 = 0 from lv_s]
  have rs6' : Rs w6 F6 d l b 4 12 lvS.1.1 lvS.1.2 := rs6
  have HA6 := Lib.hid (HA5.out.trans a6)
  have HOP2 := Lib.hid (gopen_dk d 12 F6 lvS.1.1 4 w6 rs6'.dk lv_sb1 (by decide) (by decide) (by decide))
  clear rs6 rs6' a6
  go_wp2_with fail
  refine HOP2.out.mono ?_
  intro e w7 h7
  rcases h7 with ⟨hb, -⟩ | ⟨-, ht, -⟩ | ⟨-, -, l2, b2, rfl, rs7, nw7, a7⟩
  · exact absurd (by decide) hb
  · exact absurd ht (by rw [show topE lvS.1.1 (2 + (4 : Int).toNat) = 1 from lv_t1]; decide)
  have rs7' : Rs w7 F6 d l2 b2 4 12 lvS.1.1 lvG1 := rs7
  have HRD := Lib.hid (gread_lg l2 b2 d 4 12 1 lvG1 F6 lvS.1.1 w7 rs7' (by decide) (openS_A _ _ _) (by decide))
  rw [lv_home] at HRD
  have HA7 := Lib.hid a7
  clear rs7 rs7' nw7 a7
  go_wp2_with fail
  refine HRD.out.mono ?_
  rintro e w8 ⟨y, rfl, -, -, r8, -, a8⟩
  have c0 : w8.cell? ⟨y, 0, none⟩ = some (.int .u8 7) := by
    have := r8.at8 (k := 0) (by decide)
    simpa [lv7] using this
  have HA8 := Lib.hid (HA7.out.trans a8)
  clear r8 a8
  go_wp2_with fail
  go_ret
  refine ⟨rfl, ?_⟩
  have h1 := HAW.out
  have h2 := HA6.out
  have h3 := HA8.out
  have hlow : ∀ j, UF F l b j → w.heap.size ≤ j := fun j hj => by
    rcases hj with hj | hj | hj
    · exact HF1.out j hj
    · rw [hj]; exact HN2.out.1
    · rw [hj]; exact HN2.out.2
  refine ⟨h3.os.trans (h2.os.trans h1.os), h3.tape.trans (h2.tape.trans h1.tape), h3.output.trans (h2.output.trans h1.output), Nat.le_trans h1.size (Nat.le_trans h2.size h3.size), fun j hj _ => ?_, fun _ x => x.elim⟩
  rw [h3.block j (Nat.lt_of_lt_of_le hj (Nat.le_trans h1.size h2.size)) (fun x => x), h2.block j (Nat.lt_of_lt_of_le hj h1.size) (fun x => by have := hlow j x; omega), h1.block j hj (fun x => x)]
end Go.Proofs.YtbdjlmdbnoghnaaGreat
namespace Go.Proofs.YtbdjlmdbnoghnaaGreat
open Go.RowKit

theorem infoBytes : (Tryz.prog.info? 53).map (fun i => (i.zero, i.size, i.bytes)) = some (some (.slice none 0 0), 1, 24) := by kernel_rfl

theorem sl_grown {e : TypeId} {size : Nat} {w2 w3 : World} {F : Nat → Prop} {v v' : Value} {k n m : Nat} {xs ys : List Value} (hS : Sl w2 F e size v k xs) (hown : w3.ownsRow 0 e size v' n ys) (hg : w2.grownBy w3 v.ownBlock)
    (hat : v'.ownBlock = v.ownBlock ∨ v'.ownBlock = some m) (hm : w2.heap.size ≤ m) : Sl w3 (fun j => F j ∨ v'.ownBlock = some j) e size v' n ys ∧ Adv F w2 (fun j => F j ∨ v'.ownBlock = some j) w3 := by
  have hF' : ∀ j, (F j ∨ v'.ownBlock = some j) → F j ∨ w2.heap.size ≤ j := by
    rintro j (h | h)
    · exact .inl h
    · rcases hat with e | e
      · exact .inl (hS.inF j (by rw [← e]; exact h))
      · rw [e] at h; injection h with h; right; omega
  have hA : Adv F w2 (fun j => F j ∨ v'.ownBlock = some j) w3 := by
    have h1 := (Adv.refl F w2).grown hg (fun j hj => .inl (hS.inF j hj))
    exact ⟨h1.os, h1.tape, h1.output, h1.size, h1.block, hF'⟩
  refine ⟨⟨hown, fun j hj => .inr hj, ?_⟩, hA⟩
  rintro j (h | h)
  · exact Nat.lt_of_lt_of_le (hS.bd j h) hA.size
  · exact (hown.lt j h).2

def sv (z : Nat) : Value := .slice (some ⟨z, 0, none⟩) 128 128
end Go.Proofs.YtbdjlmdbnoghnaaGreat
namespace Go.Proofs.YtbdjlmdbnoghnaaGreat
end Go.Proofs.YtbdjlmdbnoghnaaGreat
