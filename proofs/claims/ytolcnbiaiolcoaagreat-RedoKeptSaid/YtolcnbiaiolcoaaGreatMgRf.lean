/- What a ring says. replay. -/
import Derived.Test.YtolcnbiaiolcoaaGreatMgRe
import Derived.Test.YtolcnbiaiolcoaaGreatLjP
namespace Go.Proofs.YtolcnbiaiolcoaaGreat
open Go.RowKit Go.Maps

structure Rp where
  next : Nat
  floor : Nat
  A : Nat → Option (List Nat)
def RecOk (s : DS) (n : Nat) (H : Int) (r : Rp) : Prop := JoinOk (scanV s n r.next) ∧ r.floor ≤ (hdP (scanV s n r.next)).e ∧ decE (allD (scanV s n r.next)) = 0 ∧ isTx (decP (allD (scanV s n r.next))) H
instance (s : DS) (n : Nat) (H : Int) (r : Rp) : Decidable (RecOk s n H r) := by
  unfold RecOk
  exact inferInstance
/-- behind one record more -/
def nextR (s : DS) (n : Nat) (r : Rp) : Rp := ⟨r.next + (scanV s n r.next).length, (hdP (scanV s n r.next)).e, putA r.A (decP (allD (scanV s n r.next)))⟩
def saysR (s : DS) (n : Nat) (H : Int) : Nat → Rp → Rp
  | 0, r => r
  | f + 1, r => if RecOk s n H r then saysR s n H f (nextR s n r) else r
theorem scan_some {s : DS} {n : Nat} : ∀ {f c : Nat} {ps : List Pc}, scan s n f c = some ps → ps = preP s n c ps.length ∧ (∀ i, i < ps.length → goodP s n (c + i)) ∧ 1 ≤ ps.length ∧ ps.length ≤ f
  | 0, c, ps, h => by cases h
  | f + 1, c, ps, h => by
    unfold scan at h
    split at h
    · rename_i hg
      split at h
      · injection h with h
        subst h
        refine ⟨by simp [preP], fun i hi => ?_, by simp, by simp⟩
        have : i = 0 := by simpa using hi
        subst this
        exact hg
      · rw [Option.map_eq_some_iff] at h
        obtain ⟨qs, hq, rfl⟩ := h
        obtain ⟨h1, h2, h3, h4⟩ := scan_some hq
        refine ⟨?_, fun i hi => ?_, by simp, by simp; omega⟩
        · have e : preP s n c (qs.length + 1) = dec (rdP s n c) :: preP s n (c + 1) qs.length := by
            unfold preP
            rw [List.range_succ_eq_map, List.map_cons, List.map_map]
            congr 1
            apply List.map_congr_left
            intro i _
            simp only [Function.comp_apply, Nat.succ_eq_add_one, show c + 1 + i = c + (i + 1) by omega]
          rw [List.length_cons, e, ← h1]
        · cases i with
          | zero => exact hg
          | succ i =>
            have := h2 i (by simpa using hi)
            rwa [show c + 1 + i = c + (i + 1) by omega] at this
    · cases h
theorem scanV_good {s : DS} {n c : Nat} : scanV s n c = preP s n c (scanV s n c).length ∧ (∀ i, i < (scanV s n c).length → goodP s n (c + i)) := by
  cases h : scan s n (n + 1) c with
  | none =>
    have e : scanV s n c = [] := by unfold scanV; rw [h]; rfl
    rw [e]
    exact ⟨rfl, fun i hi => absurd hi (by simp)⟩
  | some ps =>
    have e : scanV s n c = ps := by unfold scanV; rw [h]; rfl
    rw [e]
    exact ⟨(scan_some h).1, (scan_some h).2.1⟩
theorem JoinOk.pos {ps : List Pc} (h : JoinOk ps) : 1 ≤ ps.length := h.1
/-- the ring holds no two counts at one place -/
theorem good_le {s : DS} {n t u : Nat} (hn : 1 ≤ n) (h : ∀ c, t ≤ c → c < u → goodP s n c) : u ≤ t + n := by
  rcases Nat.lt_or_ge (t + n) u with h1 | h1
  · have h0 := (h t (Nat.le_refl _) (by omega)).2
    have h2 := (h (t + n) (by omega) h1).2
    have e : rdP s n (t + n) = rdP s n t := by unfold rdP; rw [Nat.add_mod_right]
    rw [e, h0] at h2
    omega
  · exact h1
/-- k records are done -/
structure SaysK (s : DS) (n : Nat) (H : Int) (r0 : Rp) (k : Nat) (r : Rp) : Prop where
  res : saysR s n H (n + 1) r0 = saysR s n H (n + 1 - k) r
  good : ∀ c, r0.next ≤ c → c < r.next → goodP s n c
  le : r0.next + k ≤ r.next
  A : AOk H.toNat r0.A → 0 ≤ H → AOk H.toNat r.A
theorem SaysK.zero (s : DS) (n : Nat) (H : Int) (r : Rp) : SaysK s n H r 0 r := ⟨rfl, fun c h1 h2 => absurd h2 (by omega), Nat.le_refl _, fun h _ => h⟩
theorem SaysK.top {s : DS} {n : Nat} {H : Int} {r0 r : Rp} {k : Nat} (h : SaysK s n H r0 k r) (hn : 1 ≤ n) : r.next ≤ r0.next + n := good_le hn h.good
theorem decP_bytes (l : List Nat) : ∀ p ∈ decP l, ∀ x ∈ p.d, x < 256 := fun p hp x hx => by
  unfold decP at hp
  obtain ⟨i, _, rfl⟩ := List.mem_map.mp hp
  unfold decT at hx
  obtain ⟨j, _, rfl⟩ := List.mem_map.mp hx
  unfold decX bitsAt
  exact Nat.mod_lt _ (by decide)
theorem AOk.putA {M : Nat} {H : Int} : ∀ {ps : List Pt} {A : Nat → Option (List Nat)}, AOk M A → (∀ p ∈ ps, (0 ≤ p.a ∧ p.a < H) ∧ p.d.length = 128) → (∀ p ∈ ps, ∀ x ∈ p.d, x < 256) → H.toNat ≤ M → AOk M (putA A ps)
  | [], _, h, _, _, _ => h
  | p :: ps, A, h, h1, h2, hM => by
    have hp := h1 p (by simp)
    exact AOk.putA (ps := ps) (h.set (i := p.a.toNat) (x := p.d) (by omega) hp.2 (h2 p (by simp))) (fun q hq => h1 q (by simp [hq])) (fun q hq => h2 q (by simp [hq])) hM
theorem SaysK.step {s : DS} {n : Nat} {H : Int} {r0 r : Rp} {k : Nat} (h : SaysK s n H r0 k r) (hn : 1 ≤ n) (ho : RecOk s n H r) : SaysK s n H r0 (k + 1) (nextR s n r) ∧ k < n := by
  have hp := ho.1.pos
  have hg : ∀ c, r0.next ≤ c → c < (nextR s n r).next → goodP s n c := fun c h1 h2 => by
    by_cases hc : c < r.next
    · exact h.good c h1 hc
    · have := (scanV_good (s := s) (n := n) (c := r.next)).2 (c - r.next) (by show c - r.next < _; unfold nextR at h2; simp only at h2; omega)
      rwa [show r.next + (c - r.next) = c by omega] at this
  have ht := good_le hn hg
  have hl := h.le
  have hnx : (nextR s n r).next = r.next + (scanV s n r.next).length := rfl
  have hk : k < n := by omega
  refine ⟨⟨?_, hg, by omega, fun hA hH => ?_⟩, hk⟩
  · rw [h.res, show n + 1 - k = (n - k) + 1 by omega, show n + 1 - (k + 1) = n - k by omega]
    show (if RecOk s n H r then _ else _) = _
    rw [if_pos ho]
  · exact (h.A hA hH).putA (fun p hp => (ho.2.2.2.row p hp)) (decP_bytes _) (Nat.le_refl _)
theorem SaysK.stop {s : DS} {n : Nat} {H : Int} {r0 r : Rp} {k : Nat} (h : SaysK s n H r0 k r) (hn : 1 ≤ n) (ho : ¬ RecOk s n H r) : saysR s n H (n + 1) r0 = r := by
  have hl := h.le
  have ht := h.top hn
  rw [h.res, show n + 1 - k = (n - k) + 1 by omega]
  show (if RecOk s n H r then _ else _) = _
  rw [if_neg ho]
theorem scanV_len {s : DS} {n c : Nat} (hn : 1 ≤ n) : (scanV s n c).length ≤ n := by
  have := good_le (s := s) (t := c) (u := c + (scanV s n c).length) hn (fun x h1 h2 => by
    have := (scanV_good (s := s) (n := n) (c := c)).2 (x - c) (by omega)
    rwa [show c + (x - c) = x by omega] at this)
  omega
theorem scanV_bytes {s : DS} {n c N : Nat} (h : SB s N) (hn : 1 ≤ n) (hN : n + 2 ≤ N) : B8 (scanV s n c) := fun p hp => by
  rw [scanV_good.1] at hp
  unfold preP at hp
  obtain ⟨i, _, rfl⟩ := List.mem_map.mp hp
  intro x hx
  have hs := h (2 + (c + i) % n) (by have := Nat.mod_lt (c + i) hn; omega)
  unfold dec at hx
  exact hs x (List.mem_of_mem_drop (List.mem_of_mem_take hx))
theorem scanV_small {s : DS} {n c : Nat} : ∀ p ∈ scanV s n c, p.d.length ≤ 1000 := fun p hp => by
  have h0 := hp
  rw [scanV_good.1] at hp
  unfold preP at hp
  obtain ⟨i, hi, rfl⟩ := List.mem_map.mp hp
  have hg := ((scanV_good (s := s) (n := n) (c := c)).2 i (by simpa using hi)).1
  have := hg.2.1
  unfold dec
  rw [List.length_take, List.length_drop]
  have := hg.1
  omega
end Go.Proofs.YtolcnbiaiolcoaaGreat
namespace Go.Proofs.YtolcnbiaiolcoaaGreat
open Go.RowKit Go.Maps

def LS.at_ (g : LS) (r : Rp) : LS := { g with next := r.next, A := r.A }
def r0G (g : LS) : Rp := ⟨g.next, g.h.f, g.A⟩
def ReR (w : World) (F : Nat → Prop) (d l b n N : Nat) (s : DS) (g : LS) (e : Ending) (w' : World) : Prop := e = .returned (.tuple #[]) ∧ Rs w' F d l b n N s g ∧ Adv (LF l b) w (LF l b) w'
def ReL (w : World) (F : Nat → Prop) (d l b n N : Nat) (s : DS) (g : LS) (t2 : Value) (wr : World) : Prop :=
  ∃ (k : Nat) (r : Rp), t2 = .int .u64 (r.floor : Int) ∧ SaysK s n ((N - 2 - n : Nat) : Int) (r0G g) k r ∧ Rs wr F d l b n N s (g.at_ r) ∧ Adv (LF l b) w (LF l b) wr
theorem lnext {w : World} {l b d n N : Nat} {g : LS} (h : Lg w l b d n N g) : (intOf ((w.cell? ⟨l, 5, none⟩).getD undef)).toNat = g.next := by
  rw [h.cells.2.2.2.2.2.1]; rfl
theorem join_yes {ps : List Pc} (h : JoinOk ps) : joinV ps = allD ps ∧ joinE ps = 0 := ⟨if_pos h, if_pos h⟩
theorem join_not {ps : List Pc} (h : ¬ JoinOk ps) : joinE ps = 4 := if_neg h
theorem allD_bytes {ps : List Pc} (h : B8 ps) : ∀ x ∈ allD ps, x < 256 := fun x hx => by
  unfold allD at hx
  obtain ⟨p, hp, hx⟩ := List.mem_flatMap.mp hx
  exact h p hp x hx

set_option maxRecDepth 3000 in
set_option maxHeartbeats 12800000 in
theorem greplay_lg (l b d n N : Nat) (g : LS) (F : Nat → Prop) (s : DS) (w : World) (h : Rs w F d l b n N s g) (hsb : SB s N) (hn : 2 ≤ n ∧ n + 3 ≤ N ∧ N ≤ 900) (ht : g.next ≤ 1099511627776) :
    Calls Tryz.prog 37 #[.pointer (some ⟨l, 0, none⟩)] w (ReR w F d l b n N s (g.at_ (saysR s n ((N - 2 - n : Nat) : Int) (n + 1) (r0G g)))) := by
  obtain ⟨R, hR⟩ : ∃ R, R = g.at_ (saysR s n ((N - 2 - n : Nat) : Int) (n + 1) (r0G g)) := ⟨_, rfl⟩
  rw [← hR]
  have HR := Lib.hid hR
  have HS := Lib.hid h
  have HSB := Lib.hid hsb
  have HN := Lib.hid hn
  have HT := Lib.hid ht
  have c4 := h.lg.cells.2.2.2.2.1
  obtain ⟨fl, hfl⟩ : ∃ x, x = g.h.f := ⟨_, rfl⟩
  rw [← hfl] at c4
  have HFL := Lib.hid hfl
  clear h hsb hn ht hR hfl
  go_enter Tryz.func37, Tryz.ntmps37
  go_wp2_with fail
  go_loopw [2] (ReL w F d l b n N s g) (fun _ wr => g.next + n + 1 - (intOf ((wr.cell? ⟨l, 5, none⟩).getD undef)).toNat)
  case atStart => exact ⟨0, r0G g, by rw [HFL.out]; rfl, SaysK.zero _ _ _ _, HS.out, Adv.refl _ _⟩
  case round =>
    obtain ⟨k, r, rfl, hsy, hrs, ha⟩ := hrel
    obtain ⟨rn, rf, rA⟩ := r
    have htop := hsy.top (by have := HN.out; omega)
    have hrn : rn ≤ g.next + n := htop
    obtain ⟨ps, hps⟩ : ∃ ps, ps = scanV s n rn := ⟨_, rfl⟩
    have HPC := Lib.hid (gpieces_lg l b d n N (g.at_ ⟨rn, rf, rA⟩) F s wr hrs HSB.out (by have := HN.out; omega) (by have := HT.out; have := HN.out; show rn ≤ _; omega))
    rw [show scanV s n (g.at_ ⟨rn, rf, rA⟩).next = ps from hps.symm] at HPC
    have HB8 := Lib.hid (show B8 ps by rw [hps]; exact scanV_bytes HSB.out (by have := HN.out; omega) (by have := HN.out; omega))
    have HSM := Lib.hid (show ∀ p ∈ ps, p.d.length ≤ 1000 by rw [hps]; exact scanV_small)
    have HLN := Lib.hid (show ps.length ≤ n by rw [hps]; exact scanV_len (by have := HN.out; omega))
    have HSY := Lib.hid hsy
    have HRS := Lib.hid hrs
    have HA := Lib.hid ha
    have HPS := Lib.hid hps
    have HRN := Lib.hid hrn
    have HSTOP := Lib.hid (show ¬ RecOk s n ((N - 2 - n : Nat) : Int) ⟨rn, rf, rA⟩ → ∀ w', Adv Nul wr Nul w' → ReR w F d l b n N s R (.returned (.tuple #[])) w' from fun hno w' a => by
      have e := hsy.stop (by have := HN.out; omega) hno
      rw [HR.out, e]
      exact ⟨rfl, hrs.over a, ha.trans (a.same (fun _ x => x.elim))⟩)
    obtain ⟨m, hm⟩ : ∃ m, m = ps.length := ⟨_, rfl⟩
    have HM := Lib.hid hm
    clear hsy hrs ha hps htop hrn hm c4
    go_wp2_with fail
    refine HPC.out.mono ?_
    rintro e w1 ⟨A1, k1, rfl, p1, n1, a1⟩
    have HP1 := Lib.hid p1
    have HN1 := Lib.hid n1
    have HA1 := Lib.hid a1
    have HJ := Lib.hid (pjoin_any A1 k1 ps w1 p1 HB8.out (by have := HLN.out; have := HN.out; omega) HSM.out)
    rw [← HM.out] at HJ HN1 HP1 ⊢
    clear p1 n1 a1
    go_wp2_with fail
    refine HJ.out.mono ?_
    rintro e w2 ⟨A2, k2, rfl, r2, a2⟩
    have HA2 := Lib.hid (HA1.out.trans a2)
    have hp2 := HP1.out.step a2
    have HP2 := Lib.hid hp2
    by_cases hj : JoinOk ps
    · rw [(join_yes hj).1] at r2 ⊢
      rw [(join_yes hj).2]
      have h1 := hj.pos
      obtain ⟨b1, o1, q1, q1', rfl, hb1, hc5, -⟩ := hp2.row (i := 0) (by omega)
      obtain ⟨e0, he0⟩ : ∃ x, x = (hdP ps).e := ⟨_, rfl⟩
      have hhd : ps[0]'(by omega) = hdP ps := by
        unfold hdP
        cases ps with
        | nil => simp at h1
        | cons p ps => rfl
      have c10 : w2.cell? ⟨b1, o1, none⟩ = some (.int .u64 (e0 : Int)) := by
        have := hc5.1
        rw [hhd, ← he0, Nat.zero_mul, Nat.add_zero] at this
        exact this
      have hm1 : (1 : Int) ≤ (m : Int) := by have := HM.out; omega
      have hm0 : (0 : Int) < (m : Int) := by omega
      obtain ⟨D, hD⟩ : ∃ D, D = allD ps := ⟨_, rfl⟩
      rw [← hD] at r2 ⊢
      have hDl : D.length ≤ 8192 := by rw [hD]; exact hj.2.2
      have HDC := Lib.hid (gdecode_any _ D w2 r2 (by rw [hD]; exact allD_bytes HB8.out) (by omega))
      obtain ⟨dl, hdl⟩ : ∃ x, x = D.length := ⟨_, rfl⟩
      rw [← hdl] at HDC ⊢
      have HJO := Lib.hid hj
      have HE0 := Lib.hid he0
      have HD := Lib.hid hD
      have HB1 := Lib.hid hb1
      clear r2 a2 hp2 hj h1 hc5 he0 hhd hD hDl hdl hb1
      by_cases hef : e0 < rf
      · have hefI : (e0 : Int) < (rf : Int) := by omega
        have HF := Lib.hid (HSTOP.out (fun ho => by have := ho.2.1; rw [← HPS.out, ← HE0.out] at this; simp only at this; omega) _ HA2.out)
        clear hef
        go_wp2_with fail
        go_end0
        exact HF.out
      · have hefI : (rf : Int) ≤ (e0 : Int) := by omega
        have HEF := Lib.hid (show rf ≤ e0 by omega)
        have hnf : ((e0 : Int) < (rf : Int)) = False := eq_false (by omega)
        clear hef
        go_wp2_with fail
        refine HDC.out.mono ?_
        rintro e w3 ⟨z, rfl, q3, a3⟩
        have HA3 := Lib.hid (HA2.out.trans a3)
        have HQ3 := Lib.hid (q3 (LF l b) (HRS.out.over HA2.out).lg.bd)
        have HA23 := Lib.hid a3
        obtain ⟨B, hB⟩ : ∃ B, B = decide (decE D = 0) := ⟨_, rfl⟩
        rw [← hB]
        obtain ⟨gl, hgl⟩ : ∃ x, x = (gP D).length := ⟨_, rfl⟩
        rw [← hgl] at HQ3 ⊢
        have HB := Lib.hid hB
        clear a3 q3 hB hgl
        cases B with
        | false =>
          have HF := Lib.hid (HSTOP.out (fun ho => of_decide_eq_false HB.out.symm (by have := ho.2.2.1; rw [← HPS.out, ← HD.out] at this; exact this)) _ HA3.out)
          go_wp2_with fail
          go_end0
          exact HF.out
        | true =>
          have HDE := Lib.hid (of_decide_eq_true HB.out.symm)
          have HS3 := Lib.hid (HRS.out.over HA3.out)
          have HHM := Lib.hid (ghomes_lg HS3.out.lg HS3.out.dk (by have := HN.out; omega) (by have := HN.out; omega))
          obtain ⟨Hm, hHm⟩ : ∃ x, x = N - 2 - n := ⟨_, rfl⟩
          rw [← hHm] at HHM
          have HHm := Lib.hid hHm
          clear hHm
          go_wp2_with fail
          refine HHM.out.mono ?_
          rintro e w4 ⟨rfl, k4, rfl⟩
          have HA4 := Lib.hid (HA3.out.drewN k4)
          have hq4 := HQ3.out.step ((Adv.refl Nul w3).drewN k4)
          have HTX := Lib.hid (istx_any _ gl gl (gP D) (Hm : Int) _ (w3.drewN k4) hq4)
          obtain ⟨C, hC⟩ : ∃ C, C = decide (isTx (gP D) (Hm : Int)) := ⟨_, rfl⟩
          rw [← hC] at HTX
          have HC := Lib.hid hC
          have HQ4 := Lib.hid hq4
          clear hq4 hC
          go_wp2_with fail
          refine HTX.out.mono ?_
          rintro e w5 ⟨rfl, a5⟩
          have HA5 := Lib.hid (HA4.out.trans a5)
          have HQ5 := Lib.hid (HQ4.out.step a5)
          have HA35 := Lib.hid (HA23.out.trans (((Adv.refl Nul w3).drewN k4).trans a5))
          clear a5
          cases C with
          | false =>
            have HF := Lib.hid (HSTOP.out (fun ho => of_decide_eq_false HC.out.symm (by have := ho.2.2.2; rw [← HPS.out, ← HD.out, ← gP_dec HDE.out, ← HHm.out] at this; exact this)) _ HA5.out)
            go_wp2_with fail
            go_end0
            exact HF.out
          | true =>
            have HTR := Lib.hid (of_decide_eq_true HC.out.symm)
            have HS5 := Lib.hid (HRS.out.over HA5.out)
            have hrec : RecOk s n ((N - 2 - n : Nat) : Int) ⟨rn, rf, rA⟩ := by
              refine ⟨?_, ?_, ?_, ?_⟩
              · simp only; rw [← HPS.out]; exact HJO.out
              · simp only; rw [← HPS.out, ← HE0.out]; exact HEF.out
              · simp only; rw [← HPS.out, ← HD.out]; exact HDE.out
              · simp only; rw [← HPS.out, ← HD.out, ← gP_dec HDE.out, ← HHm.out]; exact HTR.out
            have hst := HSY.out.step (by have := HN.out; omega) hrec
            have hnx : nextR s n ⟨rn, rf, rA⟩ = ⟨rn + m, e0, putA rA (gP D)⟩ := by
              unfold nextR
              simp only
              rw [← HPS.out, ← HM.out, ← HE0.out, ← HD.out, gP_dec HDE.out]
            rw [hnx] at hst
            have HST := Lib.hid hst
            have HTK := Lib.hid (gtake_lg l b d n N m (g.at_ ⟨rn, rf, rA⟩) _ gl gl (gP D) w5 HS5.out.lg HQ5.out (by rw [← HHm.out]; exact HTR.out) (by have := HN.out; omega) (by have := HRN.out; have := HT.out; have := HLN.out; have := HM.out; have := HN.out; show rn + m < _; omega))
            have HC5 := Lib.hid (show w5.cell? ⟨b1, o1, none⟩ = some (.int .u64 (e0 : Int)) by rw [← c10]; exact World.cell?_of_block (HA35.out.block b1 HB1.out (fun x => x)))
            have HB5 := Lib.hid (show b1 < w5.heap.size from Nat.lt_of_lt_of_le HB1.out HA35.out.size)
            have HNB := Lib.hid (show ¬ LF l b b1 from fun x => by have := HRS.out.lg.bd b1 x; have := HN1.out b1 rfl; omega)
            clear hrec hst hnx c10
            go_wp2_with fail
            refine HTK.out.mono ?_
            rintro e w6 ⟨rfl, l6, a6⟩
            have c10 : w6.cell? ⟨b1, o1, none⟩ = some (.int .u64 (e0 : Int)) := by rw [← HC5.out]; exact World.cell?_of_block (a6.block b1 HB5.out HNB.out)
            have HS6 := Lib.hid (show Rs w6 F d l b n N s (g.at_ ⟨rn + m, e0, putA rA (gP D)⟩) from HS5.out.log a6 l6)
            have HA6 := Lib.hid (HA.out.trans ((HA5.out.same (fun _ x => x.elim)).trans a6))
            clear l6 a6
            go_wp2_with fail
            refine ⟨⟨k + 1, _, rfl, HST.out.1, HS6.out, HA6.out⟩, ?_⟩
            rw [lnext HS6.out.lg, lnext HRS.out.lg]
            have h1 := HST.out.1.top (by have := HN.out; omega)
            have h2 := HJO.out.pos
            have h3 := HM.out
            have h4 : rn + m ≤ g.next + n := h1
            show g.next + n + 1 - (rn + m) < g.next + n + 1 - rn
            omega
    · rw [join_not hj]
      have HF := Lib.hid (HSTOP.out (fun ho => hj (by have := ho.1; rw [← HPS.out] at this; exact this)) _ HA2.out)
      obtain ⟨jl, hjl⟩ : ∃ x, x = (joinV ps).length := ⟨_, rfl⟩
      rw [← hjl] at r2 ⊢
      clear r2 a2 hp2 hj hjl
      go_wp2_with fail
      go_end0
      exact HF.out
end Go.Proofs.YtolcnbiaiolcoaaGreat
