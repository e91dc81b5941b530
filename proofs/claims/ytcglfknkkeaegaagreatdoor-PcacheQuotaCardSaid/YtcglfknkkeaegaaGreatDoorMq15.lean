/- replay. A disk that no call made; DiskNobody. Open. lives: something is written at all. The newest of two heads: words. HeadKept: what a torn write of a head leaves (arithmetic). The ring goes around: a log while the power stays (arithmetic): disks. The ring goes around (arithmetic): what a ring says. -/
import Derived.Test.YtcglfknkkeaegaaGreatDoorMq14
import Derived.Test.YtcglfknkkeaegaaGreatDoorMq08
import Derived.Deep.DeepCutAuto
import Derived.Test.YtcglfknkkeaegaaGreatDoorMq09
import Derived.Test.YtcglfknkkeaegaaGreatDoorMq12
namespace Go.Proofs.YtcglfknkkeaegaaGreatDoor
open Go.RowKit Go.Maps

def LS.at_ (g : LS) (r : Rp) : LS := { g with next := r.next, A := r.A }
def r0G (g : LS) : Rp := ⟨g.next, g.h.f, g.A⟩
def ReR (w : World) (F : Nat → Prop) (d l b n N : Nat) (s : DS) (g : LS) (e : Ending) (w' : World) : Prop := e = .returned (.tuple #[]) ∧ Rs w' F d l b n N s g ∧ Adv (LF l b) w (LF l b) w'
def ReL (w : World) (F : Nat → Prop) (d l b n N : Nat) (s : DS) (g : LS) (t2 : Value) (wr : World) : Prop :=
  ∃ (k : Nat) (r : Rp), t2 = .int .u64 (r.floor : Int) ∧ SaysK s n ((N - 2 - n : Nat) : Int) (r0G g) k r ∧ Rs wr F d l b n N s (g.at_ r) ∧ Adv (LF l b) w (LF l b) wr
theorem lnext {w : World} {l b d n N : Nat} {g : LS} (h : Lg w l b d n N g) : (intOf ((w.cell? ⟨l, 5, none⟩).getD undef)).toNat = g.next := by
  rw [h.cells.2.2.2.2.2.1]; rfl
theorem join_yes {ps : List Pc} (h : JoinOk ps) : joinV ps = allD ps ∧ joinE ps = 0 := ⟨if_pos h, if_pos h⟩
theorem join_not {ps : List Pc} (h : ¬ JoinOk ps) : joinE ps = 4 := if_neg h
theorem allD_bytes {ps : List Pc} (h : B8 ps) : ∀ x ∈ allD ps, x < 256 := fun x hx => by
  unfold allD at hx
  obtain ⟨p, hp, hx⟩ := List.mem_flatMap.mp hx
  exact h p hp x hx

set_option maxRecDepth 3000 in
set_option maxHeartbeats 12800000 in
theorem greplay_lg (l b d n N : Nat) (g : LS) (F : Nat → Prop) (s : DS) (w : World) (h : Rs w F d l b n N s g) (hsb : SB s N) (hn : 2 ≤ n ∧ n + 3 ≤ N ∧ N ≤ 1100) (ht : g.next ≤ 1099511627776) :
    Calls Tryz.prog 76 #[.pointer (some ⟨l, 0, none⟩)] w (ReR w F d l b n N s (g.at_ (saysR s n ((N - 2 - n : Nat) : Int) (n + 1) (r0G g)))) := by
  obtain ⟨R, hR⟩ : ∃ R, R = g.at_ (saysR s n ((N - 2 - n : Nat) : Int) (n + 1) (r0G g)) := ⟨_, rfl⟩
  rw [← hR]
  have HR := Lib.hid hR
  have HS := Lib.hid h
  have HSB := Lib.hid hsb
  have HN := Lib.hid hn
  have HT := Lib.hid ht
  have c4 := h.lg.cells.2.2.2.2.1
  obtain ⟨fl, hfl⟩ : ∃ x, x = g.h.f := ⟨_, rfl⟩
  rw [← hfl] at c4
  have HFL := Lib.hid hfl
  clear h hsb hn ht hR hfl
  go_enter Tryz.func76, Tryz.ntmps76
  go_wp2_with fail
  go_loopw [2] (ReL w F d l b n N s g) (fun _ wr => g.next + n + 1 - (intOf ((wr.cell? ⟨l, 5, none⟩).getD undef)).toNat)
  case atStart => exact ⟨0, r0G g, by rw [HFL.out]; rfl, SaysK.zero _ _ _ _, HS.out, Adv.refl _ _⟩
  case round =>
    obtain ⟨k, r, rfl, hsy, hrs, ha⟩ := hrel
    obtain ⟨rn, rf, rA⟩ := r
    have htop := hsy.top (by have := HN.out; omega)
    have hrn : rn ≤ g.next + n := htop
    obtain ⟨ps, hps⟩ : ∃ ps, ps = scanV s n rn := ⟨_, rfl⟩
    have HPC := Lib.hid (gpieces_lg l b d n N (g.at_ ⟨rn, rf, rA⟩) F s wr hrs HSB.out (by have := HN.out; omega) (by have := HT.out; have := HN.out; show rn ≤ _; omega))
    rw [show scanV s n (g.at_ ⟨rn, rf, rA⟩).next = ps from hps.symm] at HPC
    have HB8 := Lib.hid (show B8 ps by rw [hps]; exact scanV_bytes HSB.out (by have := HN.out; omega) (by have := HN.out; omega))
    have HSM := Lib.hid (show ∀ p ∈ ps, p.d.length ≤ 1000 by rw [hps]; exact scanV_small)
    have HLN := Lib.hid (show ps.length ≤ n by rw [hps]; exact scanV_len (by have := HN.out; omega))
    have HSY := Lib.hid hsy
    have HRS := Lib.hid hrs
    have HA := Lib.hid ha
    have HPS := Lib.hid hps
    have HRN := Lib.hid hrn
    have HSTOP := Lib.hid (show ¬ RecOk s n ((N - 2 - n : Nat) : Int) ⟨rn, rf, rA⟩ → ∀ w', Adv Nul wr Nul w' → ReR w F d l b n N s R (.returned (.tuple #[])) w' from fun hno w' a => by
      have e := hsy.stop (by have := HN.out; omega) hno
      rw [HR.out, e]
      exact ⟨rfl, hrs.over a, ha.trans (a.same (fun _ x => x.elim))⟩)
    obtain ⟨m, hm⟩ : ∃ m, m = ps.length := ⟨_, rfl⟩
    have HM := Lib.hid hm
    clear hsy hrs ha hps htop hrn hm c4
    go_wp2_with fail
    refine HPC.out.mono ?_
    rintro e w1 ⟨A1, k1, rfl, p1, n1, a1⟩
    have HP1 := Lib.hid p1
    have HN1 := Lib.hid n1
    have HA1 := Lib.hid a1
    have HJ := Lib.hid (pjoin_any A1 k1 ps w1 p1 HB8.out (by have := HLN.out; have := HN.out; omega) HSM.out)
    rw [← HM.out] at HJ HN1 HP1 ⊢
    clear p1 n1 a1
    go_wp2_with fail
    refine HJ.out.mono ?_
    rintro e w2 ⟨A2, k2, rfl, r2, a2⟩
    have HA2 := Lib.hid (HA1.out.trans a2)
    have hp2 := HP1.out.step a2
    have HP2 := Lib.hid hp2
    by_cases hj : JoinOk ps
    · rw [(join_yes hj).1] at r2 ⊢
      rw [(join_yes hj).2]
      have h1 := hj.pos
      obtain ⟨b1, o1, q1, q1', rfl, hb1, hc5, -⟩ := hp2.row (i := 0) (by omega)
      obtain ⟨e0, he0⟩ : ∃ x, x = (hdP ps).e := ⟨_, rfl⟩
      have hhd : ps[0]'(by omega) = hdP ps := by
        unfold hdP
        cases ps with
        | nil => simp at h1
        | cons p ps => rfl
      have c10 : w2.cell? ⟨b1, o1, none⟩ = some (.int .u64 (e0 : Int)) := by
        have := hc5.1
        rw [hhd, ← he0, Nat.zero_mul, Nat.add_zero] at this
        exact this
      have hm1 : (1 : Int) ≤ (m : Int) := by have := HM.out; omega
      have hm0 : (0 : Int) < (m : Int) := by omega
      obtain ⟨D, hD⟩ : ∃ D, D = allD ps := ⟨_, rfl⟩
      rw [← hD] at r2 ⊢
      have hDl : D.length ≤ 8192 := by rw [hD]; exact hj.2.2
      have HDC := Lib.hid (gdecode_any _ D w2 r2 (by rw [hD]; exact allD_bytes HB8.out) (by omega))
      obtain ⟨dl, hdl⟩ : ∃ x, x = D.length := ⟨_, rfl⟩
      rw [← hdl] at HDC ⊢
      have HJO := Lib.hid hj
      have HE0 := Lib.hid he0
      have HD := Lib.hid hD
      have HB1 := Lib.hid hb1
      clear r2 a2 hp2 hj h1 hc5 he0 hhd hD hDl hdl hb1
      by_cases hef : e0 < rf
      · have hefI : (e0 : Int) < (rf : Int) := by omega
        have HF := Lib.hid (HSTOP.out (fun ho => by have := ho.2.1; rw [← HPS.out, ← HE0.out] at this; simp only at this; omega) _ HA2.out)
        clear hef
        go_wp2_with fail
        go_end0
        exact HF.out
      · have hefI : (rf : Int) ≤ (e0 : Int) := by omega
        have HEF := Lib.hid (show rf ≤ e0 by omega)
        have hnf : ((e0 : Int) < (rf : Int)) = False := eq_false (by omega)
        clear hef
        go_wp2_with fail
        refine HDC.out.mono ?_
        rintro e w3 ⟨z, rfl, q3, a3⟩
        have HA3 := Lib.hid (HA2.out.trans a3)
        have HQ3 := Lib.hid (q3 (LF l b) (HRS.out.over HA2.out).lg.bd)
        have HA23 := Lib.hid a3
        obtain ⟨B, hB⟩ : ∃ B, B = decide (decE D = 0) := ⟨_, rfl⟩
        rw [← hB]
        obtain ⟨gl, hgl⟩ : ∃ x, x = (gP D).length := ⟨_, rfl⟩
        rw [← hgl] at HQ3 ⊢
        have HB := Lib.hid hB
        clear a3 q3 hB hgl
        cases B with
        | false =>
          have HF := Lib.hid (HSTOP.out (fun ho => of_decide_eq_false HB.out.symm (by have := ho.2.2.1; rw [← HPS.out, ← HD.out] at this; exact this)) _ HA3.out)
          go_wp2_with fail
          go_end0
          exact HF.out
        | true =>
          have HDE := Lib.hid (of_decide_eq_true HB.out.symm)
          have HS3 := Lib.hid (HRS.out.over HA3.out)
          have HHM := Lib.hid (ghomes_lg HS3.out.lg HS3.out.dk (by have := HN.out; omega) (by have := HN.out; omega))
          obtain ⟨Hm, hHm⟩ : ∃ x, x = N - 2 - n := ⟨_, rfl⟩
          rw [← hHm] at HHM
          have HHm := Lib.hid hHm
          clear hHm
          go_wp2_with fail
          refine HHM.out.mono ?_
          rintro e w4 ⟨rfl, k4, rfl⟩
          have HA4 := Lib.hid (HA3.out.drewN k4)
          have hq4 := HQ3.out.step ((Adv.refl Nul w3).drewN k4)
          have HTX := Lib.hid (istx_any _ gl gl (gP D) (Hm : Int) _ (w3.drewN k4) hq4)
          obtain ⟨C, hC⟩ : ∃ C, C = decide (isTx (gP D) (Hm : Int)) := ⟨_, rfl⟩
          rw [← hC] at HTX
          have HC := Lib.hid hC
          have HQ4 := Lib.hid hq4
          clear hq4 hC
          go_wp2_with fail
          refine HTX.out.mono ?_
          rintro e w5 ⟨rfl, a5⟩
          have HA5 := Lib.hid (HA4.out.trans a5)
          have HQ5 := Lib.hid (HQ4.out.step a5)
          have HA35 := Lib.hid (HA23.out.trans (((Adv.refl Nul w3).drewN k4).trans a5))
          clear a5
          cases C with
          | false =>
            have HF := Lib.hid (HSTOP.out (fun ho => of_decide_eq_false HC.out.symm (by have := ho.2.2.2; rw [← HPS.out, ← HD.out, ← gP_dec HDE.out, ← HHm.out] at this; exact this)) _ HA5.out)
            go_wp2_with fail
            go_end0
            exact HF.out
          | true =>
            have HTR := Lib.hid (of_decide_eq_true HC.out.symm)
            have HS5 := Lib.hid (HRS.out.over HA5.out)
            have hrec : RecOk s n ((N - 2 - n : Nat) : Int) ⟨rn, rf, rA⟩ := by
              refine ⟨?_, ?_, ?_, ?_⟩
              · simp only; rw [← HPS.out]; exact HJO.out
              · simp only; rw [← HPS.out, ← HE0.out]; exact HEF.out
              · simp only; rw [← HPS.out, ← HD.out]; exact HDE.out
              · simp only; rw [← HPS.out, ← HD.out, ← gP_dec HDE.out, ← HHm.out]; exact HTR.out
            have hst := HSY.out.step (by have := HN.out; omega) hrec
            have hnx : nextR s n ⟨rn, rf, rA⟩ = ⟨rn + m, e0, putA rA (gP D)⟩ := by
              unfold nextR
              simp only
              rw [← HPS.out, ← HM.out, ← HE0.out, ← HD.out, gP_dec HDE.out]
            rw [hnx] at hst
            have HST := Lib.hid hst
            have HTK := Lib.hid (gtake_lg l b d n N m (g.at_ ⟨rn, rf, rA⟩) _ gl gl (gP D) w5 HS5.out.lg HQ5.out (by rw [← HHm.out]; exact HTR.out) (by have := HN.out; omega) (by have := HRN.out; have := HT.out; have := HLN.out; have := HM.out; have := HN.out; show rn + m < _; omega))
            have HC5 := Lib.hid (show w5.cell? ⟨b1, o1, none⟩ = some (.int .u64 (e0 : Int)) by rw [← c10]; exact World.cell?_of_block (HA35.out.block b1 HB1.out (fun x => x)))
            have HB5 := Lib.hid (show b1 < w5.heap.size from Nat.lt_of_lt_of_le HB1.out HA35.out.size)
            have HNB := Lib.hid (show ¬ LF l b b1 from fun x => by have := HRS.out.lg.bd b1 x; have := HN1.out b1 rfl; omega)
            clear hrec hst hnx c10
            go_wp2_with fail
            refine HTK.out.mono ?_
            rintro e w6 ⟨rfl, l6, a6⟩
            have c10 : w6.cell? ⟨b1, o1, none⟩ = some (.int .u64 (e0 : Int)) := by rw [← HC5.out]; exact World.cell?_of_block (a6.block b1 HB5.out HNB.out)
            have HS6 := Lib.hid (show Rs w6 F d l b n N s (g.at_ ⟨rn + m, e0, putA rA (gP D)⟩) from HS5.out.log a6 l6)
            have HA6 := Lib.hid (HA.out.trans ((HA5.out.same (fun _ x => x.elim)).trans a6))
            clear l6 a6
            go_wp2_with fail
            refine ⟨⟨k + 1, _, rfl, HST.out.1, HS6.out, HA6.out⟩, ?_⟩
            rw [lnext HS6.out.lg, lnext HRS.out.lg]
            have h1 := HST.out.1.top (by have := HN.out; omega)
            have h2 := HJO.out.pos
            have h3 := HM.out
            have h4 : rn + m ≤ g.next + n := h1
            show g.next + n + 1 - (rn + m) < g.next + n + 1 - rn
            omega
    · rw [join_not hj]
      have HF := Lib.hid (HSTOP.out (fun ho => hj (by have := ho.1; rw [← HPS.out] at this; exact this)) _ HA2.out)
      obtain ⟨jl, hjl⟩ : ∃ x, x = (joinV ps).length := ⟨_, rfl⟩
      rw [← hjl] at r2 ⊢
      clear r2 a2 hp2 hj hjl
      go_wp2_with fail
      go_end0
      exact HF.out
end Go.Proofs.YtcglfknkkeaegaaGreatDoor
namespace Go.Proofs.YtcglfknkkeaegaaGreatDoor
open Go.RowKit
end Go.Proofs.YtcglfknkkeaegaaGreatDoor
namespace Go.Proofs.YtcglfknkkeaegaaGreatDoor
open Go.RowKit Go.Maps

theorem unHd_small {l : List Nat} {h : Hd} (hl : ∀ x ∈ l, x < 256) (e : unHd l = some h) : h.g ≤ 1099511627775 ∧ h.t < 1099511627776 ∧ h.f < 16777216 := by
  unfold unHd at e
  split at e
  · rename_i hc
    injection e with e
    subst e
    have h8 : ∀ x ∈ (dec l).d, x < 256 := fun x hx => by
      unfold dec at hx
      exact hl x (List.mem_of_mem_drop (List.mem_of_mem_take hx))
    have hv := val_lt8 hc.2.2.2 h8
    refine ⟨?_, ?_, ?_⟩
    · show (dec l).c ≤ _
      unfold dec
      simp only
      omega
    · show val (dec l).d / 16777216 < _
      omega
    · show val (dec l).d % 16777216 < _
      omega
  · cases e
theorem curAt_small {s : DS} {N p : Nat} (hsb : SB s N) : ∀ {k : Nat} {h : Hd}, p + k ≤ N → curAt s p k = some h → h.g ≤ 1099511627775 ∧ h.t < 1099511627776 ∧ h.f < 16777216
  | 0, h, _, e => by cases e
  | k + 1, h, hk, e => by
    have e1 : nx (curAt s p k) (unO (isS s (p + k)) k) = some h := e
    cases ho : unO (isS s (p + k)) k with
    | none => rw [ho] at e1; exact curAt_small hsb (by omega) e1
    | some h' =>
      have hu : unHd (isS s (p + k)) = some h' := by
        unfold unO at ho
        rw [Option.bind_eq_some_iff] at ho
        obtain ⟨x, h1, h2⟩ := ho
        split at h2
        · injection h2 with h2; rw [← h2]; exact h1
        · cases h2
      have hs := unHd_small (hsb (p + k) (by omega)) hu
      rw [ho] at e1
      unfold nx at e1
      simp only at e1
      split at e1
      · injection e1 with e1; rw [← e1]; exact hs
      · exact curAt_small hsb (by omega) e1
/-- the head that a disk has; none: Tail 0, Floor 1 -/
def headO (s : DS) : Hd := (curAt s 0 2).getD ⟨0, 0, 1⟩
def openL (s : DS) (n : Nat) : LS := ⟨headO s, (headO s).t, topE s (2 + n) + 1, fun _ => none, 0⟩
/-- the log that is opened -/
def openS (s : DS) (n N : Nat) : LS := (openL s n).at_ (saysR s n ((N - 2 - n : Nat) : Int) (n + 1) (r0G (openL s n)))
theorem headO_small {s : DS} {N : Nat} (hsb : SB s N) (hN : 2 ≤ N) : (headO s).g ≤ 1099511627775 ∧ (headO s).t < 1099511627776 ∧ (headO s).f < 16777216 := by
  unfold headO
  cases h : curAt s 0 2 with
  | none => simp
  | some x => exact curAt_small hsb (by omega) h
def OpR (w : World) (F : Nat → Prop) (d N : Nat) (s : DS) (n : Int) (e : Ending) (w' : World) : Prop :=
  (¬ (2 ≤ n ∧ n + 3 ≤ (N : Int)) ∧ e = .returned (.tuple #[.pointer none, .int .i64 2]) ∧ Adv Nul w Nul w') ∨
  ((2 ≤ n ∧ n + 3 ≤ (N : Int)) ∧ topE s (2 + n.toNat) = 16777215 ∧ e = .returned (.tuple #[.pointer none, .int .i64 8]) ∧ Adv Nul w Nul w') ∨
  ((2 ≤ n ∧ n + 3 ≤ (N : Int)) ∧ topE s (2 + n.toNat) < 16777215 ∧ ∃ l b, e = .returned (.tuple #[.pointer (some ⟨l, 0, none⟩), .int .i64 0]) ∧ Rs w' F d l b n.toNat N s (openS s n.toNat N) ∧ (w.heap.size ≤ l ∧ w.heap.size ≤ b) ∧ Adv Nul w Nul w')
set_option maxRecDepth 3000 in
set_option maxHeartbeats 6400000 in
theorem gopen_dk (d N : Nat) (F : Nat → Prop) (s : DS) (n : Int) (w : World) (h : Dk w F d N s) (hsb : SB s N) (hN : 1 ≤ N ∧ N ≤ 1100) (hn0 : -9223372036854775808 ≤ n) (hn1 : n < 9223372036854775808) :
    Calls Tryz.prog 43 #[.pointer (some ⟨d, 0, none⟩), .int .i64 n] w (OpR w F d N s n) := by
  have HSZ := Lib.hid (size_dk d N F s w h)
  have HD := Lib.hid h
  have HSB := Lib.hid hsb
  have HN := Lib.hid hN
  have hNb : ((N : Int) == 0) = false := by rw [beq_eq_false_iff_ne]; omega
  have hw2 : IntKind.i64.wrap ((N : Int) - 2) = (N : Int) - 2 := by rw [IntKind.wrap_i64]; omega
  have hw3 : IntKind.i64.wrap ((N : Int) - 2 - 1) = (N : Int) - 2 - 1 := by rw [IntKind.wrap_i64]; omega
  clear h hsb hN
  by_cases hn : 2 ≤ n ∧ n + 3 ≤ (N : Int)
  · obtain ⟨m, rfl⟩ := Int.eq_ofNat_of_zero_le (show 0 ≤ n by omega)
    have hmN : m + 3 ≤ N := by have := hn.2; omega
    have hm2 : 2 ≤ m := by have := hn.1; omega
    have hm2I : (2 : Int) ≤ (m : Int) := hn.1
    have hmI : (m : Int) ≤ (N : Int) - 2 - 1 := by omega
    have hwm : IntKind.i64.wrap (2 + (m : Int)) = ((2 + m : Nat) : Int) := by rw [IntKind.wrap_i64]; have := HN.out; omega
    have HTOP := Lib.hid (gtop_dk d N (2 + m) F s w HD.out HSB.out (by omega) (by have := HN.out; omega))
    have HM := Lib.hid (And.intro hm2 hmN)
    have HNN := Lib.hid hn
    have hIN : inR N 0 2 := fun j hj => by omega
    obtain ⟨T, hT⟩ : ∃ x, x = topE s (2 + m) := ⟨_, rfl⟩
    have hTlt : T < 16777216 := by rw [hT]; exact topE_lt HSB.out _ (by omega)
    rw [← hT] at HTOP
    have HT := Lib.hid hT
    have HTL := Lib.hid hTlt
    have HIN := Lib.hid hIN
    have hmm := @run_makeMap Tryz.prog
    clear hn hn0 hn1 hmN hm2 hT hTlt hIN
    go_enter Tryz.func43, Tryz.ntmps43
    go_wp2_with fail
    refine HSZ.out.mono ?_
    rintro e w1 ⟨rfl, rfl⟩
    go_wp2_with fail
    refine HSZ.out.mono ?_
    rintro e w1 ⟨rfl, rfl⟩
    go_wp2_with fail
    refine HTOP.out.mono ?_
    rintro e w1 ⟨rfl, a1⟩
    have HA1 := Lib.hid a1
    clear a1
    by_cases hTm : T = 16777215
    · subst hTm
      have HF := Lib.hid (show OpR w F d N s (m : Int) (.returned (.tuple #[.pointer none, .int .i64 8])) w1 from .inr (.inl ⟨HNN.out, HT.out.symm, rfl, HA1.out⟩))
      go_wp2_with fail
      exact bodyPost_ret (v := .tuple #[.pointer none, .int .i64 8]) (by simp [results, Tryz.results43, go_sem]) rfl HF.out
    · have hTb : ((T : Int) == 16777215) = false := by rw [beq_eq_false_iff_ne]; omega
      have hwT : IntKind.u64.wrap ((T : Int) + 1) = (T : Int) + 1 := by rw [IntKind.wrap_u64]; have := HTL.out; omega
      have HTN := Lib.hid (show T < 16777215 by have := HTL.out; omega)
      have HLD := Lib.hid (hload_dk d N F s 0 w1 (HD.out.far HA1.out (fun _ x _ => x)) HSB.out (by have := HN.out; omega) (by decide) (by decide))
      clear hTm
      go_wp2_with fail
      refine HLD.out.mono ?_
      rintro e w2 ⟨hl2, a2⟩
      rcases hl2 with ⟨_, rfl⟩ | ⟨hbad, _⟩
      · have HA2 := Lib.hid (HA1.out.trans a2)
        obtain ⟨c, hc⟩ : ∃ c, c = curAt s 0 2 := ⟨_, rfl⟩
        rw [show ((0 : Int).toNat) = 0 from rfl, ← hc]
        obtain ⟨⟨g, t, f⟩, hh⟩ : ∃ x, x = c.getD hZ := ⟨_, rfl⟩
        rw [← hh]
        have HC := Lib.hid hc
        have HH := Lib.hid hh
        obtain ⟨V, hV⟩ : ∃ V, V = w2.alloc (.cells #[.int .u64 (g : Int), .int .u64 (t : Int), .int .u64 (f : Int)] 140) := ⟨_, rfl⟩
        obtain ⟨z, hz⟩ : ∃ z, z = w2.heap.size := ⟨_, rfl⟩
        have HZ := Lib.hid (show Blk V z 140 (h3 (g : Int) (t : Int) (f : Int)) by rw [hV, hz]; exact Blk.new _ _ _)
        have HAV := Lib.hid (HA2.out.trans (show Adv Nul w2 Nul V by rw [hV]; exact (Adv.refl _ _).alloc _))
        have HWZ := Lib.hid (show w.heap.size ≤ z by rw [hz]; exact HA2.out.size)
        have HVV := Lib.hid hV
        have HZZ := Lib.hid hz
        clear a2 hc hh hV hz
        unfold hv
        simp only
        go_upto_region 9 with (fail)
        rw [← HVV.out, ← HZZ.out]
        go_upto_if 40 with (fail)
        go_cut [] (fun wr => Blk wr z 140 (h3 ((headO s).g : Int) ((headO s).t : Int) ((headO s).f : Int)) ∧ Adv Nul w Nul wr)
        case first =>
          have hcs := HC.out
          have hhs := HH.out
          cases c with
          | none =>
            have e : headO s = ⟨0, 0, 1⟩ := by unfold headO; rw [← hcs]; rfl
            have HE := Lib.hid e
            clear hcs hhs e
            go_wp2_with (first
              | (refine op_store3 sizeHead rfl (.tmp 7) (.tmp 41) rfl z _ (h3 0 0 1) HZ.out rfl rfl (h3_one _ _ _) rfl rfl ?_)
              | fail)
            go_meet
            rw [HE.out]
            exact ⟨HZ.out.putAll rfl, Adv.lsetCells _ 0 _ HAV.out (.inr HWZ.out)⟩
          | some x =>
            have e : headO s = ⟨g, t, f⟩ := by
              unfold headO
              rw [← hcs]
              exact hhs.symm
            have HE := Lib.hid e
            clear hcs hhs e
            go_wp2_with fail
            go_meet
            rw [HE.out]
            exact ⟨HZ.out, HAV.out⟩
        case rest =>
        obtain ⟨hzb, hac⟩ := hcut
        obtain ⟨⟨g1, t1, f1⟩, hhd⟩ : ∃ x, x = headO s := ⟨_, rfl⟩
        rw [← hhd] at hzb
        obtain ⟨z0, z1, z2⟩ := hzb.three
        have HHD := Lib.hid hhd
        have HAC := Lib.hid hac
        clear hzb hac hhd
        go_upto_region 14 with (fail)
        obtain ⟨W, hW⟩ : ∃ W, W = (wc.alloc (.map #[] 0)).alloc (.cells #[.pointer (some ⟨d, 0, none⟩), .int .i64 (m : Int), .int .u64 (g1 : Int), .int .u64 (t1 : Int), .int .u64 (f1 : Int), .int .u64 (t1 : Int), .int .u64 ((T : Int) + 1), .map (some wc.heap.size), .int .i64 0] 145) := ⟨_, rfl⟩
        obtain ⟨l, hl⟩ : ∃ l, l = wc.heap.size + 1 := ⟨_, rfl⟩
        rw [← hW, ← hl]
        have haw : Adv Nul wc Nul W := by rw [hW]; exact ((Adv.refl _ _).alloc _).alloc _
        have hopen : openL s m = ⟨⟨g1, t1, f1⟩, t1, T + 1, fun _ => none, 0⟩ := by unfold openL; rw [← HHD.out, ← HT.out]
        have HS2 := Lib.hid (show Rs W F d l wc.heap.size m N s (openL s m) from by
          refine ⟨HD.out.far (HAC.out.trans haw) (fun _ x _ => x), ⟨?_, ?_⟩, fun j hf hj => ?_⟩
          · have hb := Blk.new (wc.alloc (.map #[] 0)) 145 #[.pointer (some ⟨d, 0, none⟩), .int .i64 (m : Int), .int .u64 (g1 : Int), .int .u64 (t1 : Int), .int .u64 (f1 : Int), .int .u64 (t1 : Int), .int .u64 ((T : Int) + 1), .map (some wc.heap.size), .int .i64 0]
            rw [← hW] at hb
            have hsz : (wc.alloc (.map #[] 0)).heap.size = l := by rw [hl]; simp
            rw [hsz] at hb
            rw [hopen]
            exact hb
          · rw [hopen, hW]
            exact (Mp.new wc (N - 2 - m)).keep (Below.heap_alloc _ _ _ (by simp))
          · have h1 := HD.out.bd j hf
            have h2 := HAC.out.size
            rcases hj with e | e <;> omega)
        have HA9 := Lib.hid (HAC.out.trans haw)
        have HNEW := Lib.hid (show w.heap.size ≤ l ∧ w.heap.size ≤ wc.heap.size from ⟨by have := HAC.out.size; omega, HAC.out.size⟩)
        have HRP := Lib.hid (greplay_lg l wc.heap.size d m N (openL s m) F s W HS2.out HSB.out (by have := HM.out; have := HN.out; omega) (by have := headO_small HSB.out (by have := HM.out; omega); show (headO s).t ≤ _; omega))
        clear hW hl haw hopen z0 z1 z2 hmm
        go_wp2_with fail
        refine HRP.out.mono ?_
        rintro e w9 ⟨rfl, h9, a9⟩
        have HF := Lib.hid (show OpR w F d N s (m : Int) (.returned (.tuple #[.pointer (some ⟨l, 0, none⟩), .int .i64 0])) w9 by
          refine .inr (.inr ⟨HNN.out, by rw [Int.toNat_natCast, ← HT.out]; exact HTN.out, l, wc.heap.size, rfl, by rw [Int.toNat_natCast]; exact h9, HNEW.out, ?_⟩)
          exact ⟨a9.os.trans HA9.out.os, a9.tape.trans HA9.out.tape, a9.output.trans HA9.out.output, Nat.le_trans HA9.out.size a9.size, fun j hj _ => (a9.block j (Nat.lt_of_lt_of_le hj HA9.out.size) (fun x => by have := HNEW.out; rcases x with e | e <;> omega)).trans (HA9.out.block j hj (fun x => x)), fun _ x => x.elim⟩)
        clear h9 a9
        go_wp2_with fail
        exact bodyPost_ret (v := .tuple #[.pointer (some ⟨l, 0, none⟩), .int .i64 0]) (by simp [results, Tryz.results43, go_sem]) rfl HF.out
      · exact absurd HIN.out hbad
  · have HF := Lib.hid (show OpR w F d N s n (.returned (.tuple #[.pointer none, .int .i64 2])) w from .inl ⟨hn, rfl, Adv.refl _ _⟩)
    by_cases h2 : n < 2
    · clear hn
      go_enter Tryz.func43, Tryz.ntmps43
      go_wp2_with fail
      refine HSZ.out.mono ?_
      rintro e w1 ⟨rfl, rfl⟩
      go_wp2_with fail
      exact bodyPost_ret (v := .tuple #[.pointer none, .int .i64 2]) (by simp [results, Tryz.results43, go_sem]) rfl HF.out
    · have h2' : 2 ≤ n := by omega
      have h3 : (N : Int) - 2 - 1 < n := by omega
      clear hn h2
      go_enter Tryz.func43, Tryz.ntmps43
      go_wp2_with fail
      refine HSZ.out.mono ?_
      rintro e w1 ⟨rfl, rfl⟩
      go_wp2_with fail
      refine HSZ.out.mono ?_
      rintro e w1 ⟨rfl, rfl⟩
      go_wp2_with fail
      exact bodyPost_ret (v := .tuple #[.pointer none, .int .i64 2]) (by simp [results, Tryz.results43, go_sem]) rfl HF.out
end Go.Proofs.YtcglfknkkeaegaaGreatDoor
namespace Go.Proofs.YtcglfknkkeaegaaGreatDoor
open Go.RowKit Go.Maps

theorem saysR_A {s : DS} {n M : Nat} : ∀ {f : Nat} {r : Rp}, AOk M r.A → AOk M (saysR s n (M : Int) f r).A
  | 0, r, h => h
  | f + 1, r, h => by
    show AOk M (if RecOk s n (M : Int) r then saysR s n (M : Int) f (nextR s n r) else r).A
    split
    · rename_i ho
      refine saysR_A (f := f) ?_
      exact h.putA (fun p hp => (ho.2.2.2.row p hp)) (decP_bytes _) (by omega)
    · exact h
theorem openS_A (s : DS) (n N : Nat) : AOk (N - 2 - n) (openS s n N).A := saysR_A (AOk.none _)
end Go.Proofs.YtcglfknkkeaegaaGreatDoor
namespace Go.Proofs.YtcglfknkkeaegaaGreatDoor
open Go.RowKit

theorem nx_none (o : Option Hd) : nx none o = o := by
  cases o with
  | none => rfl
  | some h =>
    show (if hZ.g ≤ h.g then some h else none) = some h
    exact if_pos (Nat.zero_le _)
theorem curAt2 (s : DS) (p : Nat) : curAt s p 2 = nx (unO (isS s p) 0) (unO (isS s (p + 1)) 1) := by
  rw [curAt_succ, curAt_succ]
  show nx (nx none _) _ = _
  rw [nx_none, Nat.add_zero]
end Go.Proofs.YtcglfknkkeaegaaGreatDoor
namespace Go.Proofs.YtcglfknkkeaegaaGreatDoor
open Go.RowKit

/-- what two sectors say -/
def two (S0 S1 : List Nat) : Option Hd := nx (unO S0 0) (unO S1 1)
theorem unO_hSec {e : Nat} {h : Hd} (k : hOk e h) : unO (hSec e h) (h.g % 2) = some h := unO_yes (unHd_hSec k) rfl
theorem nx_some {A : Option Hd} {b : Hd} (ha : (A.getD hZ).g ≤ b.g) : nx A (some b) = some b := if_pos ha
theorem nx_keep {A : Option Hd} {b : Hd} (ha : ¬ (A.getD hZ).g ≤ b.g) : nx A (some b) = A := if_neg ha
theorem nx_le {A B : Option Hd} {c : Hd} (h : nx A B = some c) : (∀ a, A = some a → a.g ≤ c.g) ∧ (∀ b, B = some b → b.g ≤ c.g) := by
  cases B with
  | none =>
    have h : A = some c := h
    exact ⟨fun a ha => by rw [h] at ha; injection ha with ha; rw [ha]; exact Nat.le_refl _, fun b hb => by simp at hb⟩
  | some b =>
    by_cases hc : (A.getD hZ).g ≤ b.g
    · rw [nx_some hc] at h
      injection h with h
      subst h
      exact ⟨fun a ha => by rw [ha] at hc; exact hc, fun b' hb => by injection hb with hb; rw [hb]; exact Nat.le_refl _⟩
    · rw [nx_keep hc] at h
      exact ⟨fun a ha => by rw [h] at ha; injection ha with ha; rw [ha]; exact Nat.le_refl _, fun b' hb => by injection hb with hb; rw [h] at hc; rw [← hb]; simp only [Option.getD_some] at hc; omega⟩
theorem nx_no {A B : Option Hd} (h : nx A B = none) : A = none ∧ B = none := by
  cases B with
  | none => exact ⟨h, rfl⟩
  | some b =>
    by_cases hc : (A.getD hZ).g ≤ b.g
    · rw [nx_some hc] at h; simp at h
    · rw [nx_keep hc] at h
      rw [h] at hc
      exact absurd (Nat.zero_le _) hc
/-- the newest head of two sectors: nobody, or sure -/
def Says (S0 S1 : List Nat) (sure : Hd) (has : Bool) : Prop := two S0 S1 = (if has = true then some sure else none) ∧ (has = false → sure = hZ)
theorem Says.le {S0 S1 : List Nat} {sure : Hd} {has : Bool} (h : Says S0 S1 sure has) : (∀ a, unO S0 0 = some a → a.g ≤ sure.g) ∧ (∀ b, unO S1 1 = some b → b.g ≤ sure.g) := by
  cases has with
  | true => exact nx_le h.1
  | false =>
    obtain ⟨h1, h2⟩ := nx_no h.1
    exact ⟨fun a ha => by rw [h1] at ha; simp at ha, fun b hb => by rw [h2] at hb; simp at hb⟩
/-- sector k is laid anew -/
def putP2 (S0 S1 : List Nat) (k : Nat) (Y : List Nat) : List Nat × List Nat := if k = 0 then (Y, S1) else (S0, Y)
theorem says_new {S0 S1 : List Nat} {sure h : Hd} {has : Bool} {e : Nat} (hs : Says S0 S1 sure has) (k : hOk e h) (hg : h.g = sure.g + 1) : two (putP2 S0 S1 (h.g % 2) (hSec e h)).1 (putP2 S0 S1 (h.g % 2) (hSec e h)).2 = some h := by
  obtain ⟨l0, l1⟩ := hs.le
  have hu := unO_hSec k
  unfold putP2 two
  by_cases hk : h.g % 2 = 0
  · rw [if_pos hk]
    rw [hk] at hu
    simp only [hu]
    cases hB : unO S1 1 with
    | none => rfl
    | some b => exact nx_keep (by have := l1 b hB; simp only [Option.getD_some]; omega)
  · rw [if_neg hk]
    have h1 : h.g % 2 = 1 := by omega
    rw [h1] at hu
    simp only [hu]
    refine nx_some ?_
    cases hA : unO S0 0 with
    | none => exact Nat.zero_le _
    | some a => have := l0 a hA; simp only [Option.getD_some]; omega
end Go.Proofs.YtcglfknkkeaegaaGreatDoor
namespace Go.Proofs.YtcglfknkkeaegaaGreatDoor
open Go.RowKit Go.Maps

theorem step_on {s : DS} (h : s.fuse = none) : stepS s = (s, true) := by unfold stepS; rw [h]
def putV (V : Nat → List Nat) (i : Nat) (b : List Nat) : Nat → List Nat := fun j => if j = i then b else V j
/-- the power stays; what each sector is -/
structure On (s : DS) (N : Nat) (V : Nat → List Nat) : Prop where
  fz : s.fuse = none
  len : s.L.length = N
  at_ : ∀ j, j < N → isS s j = V j
theorem On.write {s : DS} {N i : Nat} {V : Nat → List Nat} {b : List Nat} (h : On s N V) (hi : i < N) (hb : b.length = 128) : (writeS s (i : Int) b).2 = 0 ∧ On (writeS s (i : Int) b).1 N (putV V i b) := by
  have e : writeS s (i : Int) b = ({ s with Q := s.Q ++ [(i, b)] }, 0) := by
    unfold writeS
    rw [if_neg (by rw [h.len]; omega), step_on h.fz, if_pos rfl]
    rfl
  rw [e]
  refine ⟨rfl, h.fz, h.len, fun j hj => ?_⟩
  have h1 := h.at_ j hj
  unfold isS at h1 ⊢
  show (lays s.L (s.Q ++ [(i, b)])).getD j [] = _
  rw [lays_snoc]
  unfold putV
  by_cases c : j = i
  · subst c
    rw [if_pos rfl]
    have hl : j < (lays s.L s.Q).length := by rw [lays_length, h.len]; exact hj
    simp [List.getD_eq_getElem?_getD, hl]
  · rw [if_neg c, ← h1]
    have c' : i ≠ j := fun e => c e.symm
    simp [List.getD_eq_getElem?_getD, List.getElem?_set_ne c']
theorem On.flush {s : DS} {N : Nat} {V : Nat → List Nat} (h : On s N V) : (flushS s).2 = 0 ∧ On (flushS s).1 N V := by
  have e : flushS s = ({ s with L := lays s.L s.Q, Q := [] }, 0) := by
    unfold flushS
    rw [step_on h.fz, if_pos rfl]
  rw [e]
  exact ⟨rfl, h.fz, by show (lays s.L s.Q).length = N; rw [lays_length, h.len], fun j hj => h.at_ j hj⟩
def layV (V : Nat → List Nat) (n : Nat) (P : List Pc) : Nat → List Nat := P.foldl (fun V p => putV V (2 + p.c % n) (sealL p)) V
theorem On.layP {n N : Nat} (hn : 1 ≤ n) (hN : n + 2 ≤ N) : ∀ {P : List Pc} {s : DS} {V : Nat → List Nat}, On s N V → (∀ p ∈ P, p.d.length ≤ 106) → (layAll s n P).2 = 0 ∧ On (layAll s n P).1 N (layV V n P)
  | [], _, _, h, _ => ⟨rfl, h⟩
  | p :: P, s, V, h, hp => by
    obtain ⟨h1, h2⟩ := h.write (i := 2 + p.c % n) (b := sealL p) (by have := Nat.mod_lt p.c hn; omega) (sealL_length (hp p (by simp)))
    unfold layAll
    rw [if_pos h1]
    exact On.layP hn hN h2 (fun q hq => hp q (by simp [hq]))
theorem layV_out (n : Nat) : ∀ (P : List Pc) (V : Nat → List Nat) {j : Nat}, (∀ p ∈ P, 2 + p.c % n ≠ j) → layV V n P j = V j
  | [], _, _, _ => rfl
  | p :: P, V, j, h => by
    show layV (putV V (2 + p.c % n) (sealL p)) n P j = V j
    rw [layV_out n P _ (fun q hq => h q (by simp [hq]))]
    unfold putV
    rw [if_neg (fun e => h p (by simp) e.symm)]
theorem layV_in (n : Nat) : ∀ (P : List Pc) (V : Nat → List Nat) {p : Pc}, P.Pairwise (fun a b => 2 + a.c % n ≠ 2 + b.c % n) → p ∈ P → layV V n P (2 + p.c % n) = sealL p
  | [], _, _, _, h => absurd h (by simp)
  | q :: P, V, p, hP, h => by
    obtain ⟨h1, h2⟩ := List.pairwise_cons.mp hP
    show layV (putV V (2 + q.c % n) (sealL q)) n P (2 + p.c % n) = sealL p
    rcases List.mem_cons.mp h with rfl | h
    · rw [layV_out n P _ (fun r hr e => h1 r hr e.symm)]
      unfold putV
      rw [if_pos rfl]
    · exact layV_in n P _ h2 h
theorem layV_or (n : Nat) (j : Nat) : ∀ (P : List Pc) (V : Nat → List Nat), layV V n P j = V j ∨ ∃ p ∈ P, layV V n P j = sealL p
  | [], _ => .inl rfl
  | p :: P, V => by
    rcases layV_or n j P (putV V (2 + p.c % n) (sealL p)) with h | ⟨q, hq, h⟩
    · by_cases c : j = 2 + p.c % n
      · right
        refine ⟨p, by simp, ?_⟩
        show layV (putV V (2 + p.c % n) (sealL p)) n P j = sealL p
        rw [h]
        unfold putV
        rw [if_pos c]
      · left
        show layV (putV V (2 + p.c % n) (sealL p)) n P j = V j
        rw [h]
        unfold putV
        rw [if_neg c]
    · exact .inr ⟨q, by simp [hq], h⟩
theorem mod_apart {n a b : Nat} (h : a < b) (hb : b < a + n) : a % n ≠ b % n := fun e => by
  have hn : 0 < n := by omega
  have h1 := Nat.div_add_mod a n
  have h2 := Nat.div_add_mod b n
  rw [e] at h1
  have h3 : n * (a / n) < n * (b / n) := by omega
  have h4 : a / n < b / n := Nat.lt_of_mul_lt_mul_left h3
  have h5 : n * (a / n + 1) ≤ n * (b / n) := Nat.mul_le_mul_left n h4
  rw [Nat.mul_add, Nat.mul_one] at h5
  omega
theorem cut_apart {n e c : Nat} {l : List Nat} (h : needN l.length ≤ n) : (cutP e c l).Pairwise (fun a b => 2 + a.c % n ≠ 2 + b.c % n) := by
  unfold cutP
  rw [List.pairwise_map]
  refine List.Pairwise.imp_of_mem (fun {a b} ha hb hab => ?_) (List.pairwise_lt_range (n := needN l.length))
  have hb' := List.mem_range.mp hb
  show 2 + (c + a) % n ≠ 2 + (c + b) % n
  have := mod_apart (n := n) (a := c + a) (b := c + b) (by omega) (by omega)
  omega
theorem cutP_mem {e c : Nat} {l : List Nat} {p : Pc} (h : p ∈ cutP e c l) : p.e = e ∧ ∃ i, i < needN l.length ∧ p.c = c + i := by
  unfold cutP at h
  obtain ⟨i, hi, rfl⟩ := List.mem_map.mp h
  exact ⟨rfl, i, List.mem_range.mp hi, rfl⟩

/-- noughts -/
def nou : List Nat := List.replicate 128 0
theorem dec_nou : (dec nou).c = 0 ∧ (dec nou).g = false := by constructor <;> kernel_rfl
theorem unO_nou (k : Nat) : unO nou k = none := unO_none (by kernel_rfl)
theorem end_nou : endX nou = 0 ∧ endY nou = 0 := by constructor <;> kernel_rfl
theorem end_seal {p : Pc} (h : p.ok) : endX (sealL p) = p.e ∧ endY (sealL p) = p.e := by
  have hv : val (be 8 (stamp p.e p.c)) / 1099511627776 = p.e := by
    rw [val_be]
    have h8 : (256 : Nat) ^ 8 = 18446744073709551616 := by decide
    have h1 := h.1
    have h2 := h.2.1
    rw [h8]
    unfold stamp
    omega
  have e3 : val ((be 8 (stamp p.e p.c)).take 3) = p.e := (val3 (by rw [be_length]) (fun x hx => be_lt _ _ x hx)).symm.trans hv
  constructor
  · have e4 : (sealL p).take 3 = (be 8 (stamp p.e p.c)).take 3 := by rw [← sealL_take8, List.take_take]; rfl
    unfold endX
    rw [e4, e3]
  · unfold endY
    rw [sealL_drop120 h.2.2, e3]
theorem topE_le {s : DS} {m : Nat} : ∀ k, (∀ j, j < k → endX (isS s j) ≤ m ∧ endY (isS s j) ≤ m) → topE s k ≤ m
  | 0, _ => Nat.zero_le _
  | k + 1, h => by
    have h1 := topE_le (s := s) (m := m) k (fun j hj => h j (by omega))
    have h2 := h k (by omega)
    unfold topE
    omega
end Go.Proofs.YtcglfknkkeaegaaGreatDoor
namespace Go.Proofs.YtcglfknkkeaegaaGreatDoor
open Go.RowKit Go.Maps

/-- a transaction lies at its place -/
structure TxAt (V : Nat → List Nat) (n : Nat) (H : Int) (t : Nat) (ps : List Pt) : Prop where
  tx : isTx ps H
  b : ∀ p ∈ ps, ∀ x ∈ p.d, x < 256
  cut : cutE 1 t (recB ps).length = 0
  at_ : ∀ p ∈ cutP 1 t (recB ps), V (2 + p.c % n) = sealL p
def Chain (V : Nat → List Nat) (n : Nat) (H : Int) : Nat → List (List Pt) → Nat → Prop
  | t, [], u => t = u
  | t, ps :: r, u => TxAt V n H t ps ∧ Chain V n H (t + needT ps) r u
theorem needT_pos (ps : List Pt) : 1 ≤ needT ps := needN_pos _
theorem Chain.le {V : Nat → List Nat} {n : Nat} {H : Int} : ∀ {l : List (List Pt)} {t u : Nat}, Chain V n H t l u → t + l.length ≤ u
  | [], t, u, h => by have h : t = u := h; simp [h]
  | ps :: r, t, u, h => by
    have h1 := Chain.le h.2
    have := needT_pos ps
    simp only [List.length_cons]
    omega
theorem TxAt.frame {V V' : Nat → List Nat} {n t : Nat} {H : Int} {ps : List Pt} (h : TxAt V n H t ps) (hv : ∀ c, t ≤ c → c < t + needT ps → V' (2 + c % n) = V (2 + c % n)) : TxAt V' n H t ps :=
  ⟨h.tx, h.b, h.cut, fun p hp => by
    obtain ⟨_, i, hi, e⟩ := cutP_mem hp
    rw [hv p.c (by omega) (by unfold needT; omega)]
    exact h.at_ p hp⟩
theorem Chain.frame {V V' : Nat → List Nat} {n : Nat} {H : Int} : ∀ {l : List (List Pt)} {t u : Nat}, Chain V n H t l u → (∀ c, t ≤ c → c < u → V' (2 + c % n) = V (2 + c % n)) → Chain V' n H t l u
  | [], _, _, h, _ => h
  | ps :: r, t, u, h, hv => by
    have h1 := Chain.le h.2
    exact ⟨h.1.frame (fun c h1 h2 => hv c h1 (by omega)), Chain.frame h.2 (fun c h1 h2 => hv c (by omega) h2)⟩
theorem Chain.snoc {V : Nat → List Nat} {n : Nat} {H : Int} {ps : List Pt} : ∀ {l : List (List Pt)} {t u : Nat}, Chain V n H t l u → TxAt V n H u ps → Chain V n H t (l ++ [ps]) (u + needT ps)
  | [], t, u, h, hp => by
    have h : t = u := h
    subst h
    exact ⟨hp, rfl⟩
  | qs :: r, t, u, h, hp => ⟨h.1, Chain.snoc h.2 hp⟩

section
variable {s : DS} {N n : Nat} {V : Nat → List Nat} {H : Int}
theorem rdP_at (ho : On s N V) (hn : 1 ≤ n) (hN : n + 2 ≤ N) (c : Nat) : rdP s n c = V (2 + c % n) := ho.at_ _ (by have := Nat.mod_lt c hn; omega)
theorem TxAt.ok {t : Nat} {ps : List Pt} (h : TxAt V n H t ps) : ∀ p ∈ cutP 1 t (recB ps), p.ok := cutP_ok h.cut
theorem piece_mem {e c i : Nat} {l : List Nat} (h : i < needN l.length) : pieceAt e c l i ∈ cutP e c l := List.mem_map.mpr ⟨i, List.mem_range.mpr h, rfl⟩
theorem TxAt.scan {t : Nat} {ps : List Pt} (ho : On s N V) (hn : 1 ≤ n) (hN : n + 2 ≤ N) (h : TxAt V n H t ps) : ∀ (m i f : Nat), i + m + 1 = needT ps → m + 1 ≤ f →
    scan s n f (t + i) = some ((List.range (m + 1)).map (fun j => pieceAt 1 t (recB ps) (i + j))) := by
  intro m
  induction m with
  | zero =>
    intro i f hi hf
    obtain ⟨f, rfl⟩ : ∃ g, f = g + 1 := ⟨f - 1, by omega⟩
    have hm := piece_mem (e := 1) (c := t) (i := i) (l := recB ps) (by unfold needT at hi; omega)
    have hok := h.ok _ hm
    have hr : rdP s n (t + i) = sealL (pieceAt 1 t (recB ps) i) := (rdP_at ho hn hN _).trans (h.at_ _ hm)
    have hg : goodP s n (t + i) := ⟨by rw [hr]; exact seal_whole hok, by rw [hr, dec_seal hok]; rfl⟩
    rw [scan_last hg (by rw [hr, dec_seal hok]; show (i == needN (recB ps).length - 1) = true; unfold needT at hi; rw [beq_iff_eq]; omega), hr, dec_seal hok]
    rfl
  | succ m ih =>
    intro i f hi hf
    obtain ⟨f, rfl⟩ : ∃ g, f = g + 1 := ⟨f - 1, by omega⟩
    have hm := piece_mem (e := 1) (c := t) (i := i) (l := recB ps) (by unfold needT at hi; omega)
    have hok := h.ok _ hm
    have hr : rdP s n (t + i) = sealL (pieceAt 1 t (recB ps) i) := (rdP_at ho hn hN _).trans (h.at_ _ hm)
    have hg : goodP s n (t + i) := ⟨by rw [hr]; exact seal_whole hok, by rw [hr, dec_seal hok]; rfl⟩
    rw [scan_more hg (by rw [hr, dec_seal hok]; show (i == needN (recB ps).length - 1) = false; unfold needT at hi; rw [beq_eq_false_iff_ne]; omega), hr, dec_seal hok, Nat.add_assoc t i 1, ih (i + 1) f (by omega) (by omega)]
    rw [List.range_succ_eq_map (n := m + 1), List.map_cons, List.map_map, Option.map_some]
    congr 2
    apply List.map_congr_left
    intro j _
    show pieceAt 1 t (recB ps) (i + 1 + j) = pieceAt 1 t (recB ps) (i + (j + 1))
    rw [show i + 1 + j = i + (j + 1) by omega]
theorem TxAt.scanV {t : Nat} {ps : List Pt} (ho : On s N V) (hn : 1 ≤ n) (hN : n + 2 ≤ N) (h : TxAt V n H t ps) (hl : needT ps ≤ n) : scanV s n t = cutP 1 t (recB ps) := by
  have h1 := needT_pos ps
  have h2 := h.scan ho hn hN (needT ps - 1) 0 (n + 1) (by omega) (by omega)
  unfold Go.Proofs.YtcglfknkkeaegaaGreatDoor.scanV
  rw [show t + 0 = t from rfl] at h2
  rw [h2, show needT ps - 1 + 1 = needT ps by omega]
  show (List.range (needT ps)).map (fun j => pieceAt 1 t (recB ps) (0 + j)) = _
  unfold cutP needT
  apply List.map_congr_left
  intro j _
  rw [Nat.zero_add]
theorem TxAt.rec_ {t : Nat} {ps : List Pt} (ho : On s N V) (hn : 1 ≤ n) (hN : n + 2 ≤ N) (hH : H ≤ 4096) (h : TxAt V n H t ps) (hl : needT ps ≤ n) (A : Nat → Option (List Nat)) (fl : Nat) (hf : fl ≤ 1) :
    RecOk s n H ⟨t, fl, A⟩ ∧ nextR s n ⟨t, fl, A⟩ = ⟨t + needT ps, 1, putA A ps⟩ := by
  have e := h.scanV ho hn hN hl
  have hj := joinP_cut h.cut
  have hb := rec_back h.tx hH h.b
  have hhd : (hdP (cutP 1 t (recB ps))).e = 1 := by
    obtain ⟨p, r, e1⟩ : ∃ p r, cutP 1 t (recB ps) = p :: r := List.exists_cons_of_length_pos (by rw [cutP_length]; exact needN_pos _)
    rw [e1]
    exact (cutP_mem (e := 1) (c := t) (l := recB ps) (p := p) (by rw [e1]; simp)).1
  unfold RecOk nextR
  simp only
  rw [e, allD_cut, hb.1, hhd, cutP_length]
  exact ⟨⟨(join_iff _).mp hj, hf, hb.2, h.tx⟩, rfl⟩
theorem chain_says (ho : On s N V) (hn : 1 ≤ n) (hN : n + 2 ≤ N) (hH : H ≤ 4096) : ∀ (l : List (List Pt)) (t u f fl : Nat) (A : Nat → Option (List Nat)), Chain V n H t l u → u ≤ t + n → l.length < f → fl ≤ 1 → (∀ A fl, fl ≤ 1 → ¬ RecOk s n H ⟨u, fl, A⟩) →
    ∃ fl', saysR s n H f ⟨t, fl, A⟩ = ⟨u, fl', l.foldl putA A⟩
  | [], t, u, f, fl, A, h, _, hf, hfl, hno => by
    have h : t = u := h
    subst h
    obtain ⟨f, rfl⟩ : ∃ g, f = g + 1 := ⟨f - 1, by simp at hf; omega⟩
    refine ⟨fl, ?_⟩
    unfold saysR
    rw [if_neg (hno A fl hfl)]
    rfl
  | ps :: r, t, u, f, fl, A, h, hu, hf, hfl, hno => by
    obtain ⟨f, rfl⟩ : ∃ g, f = g + 1 := ⟨f - 1, by simp at hf; omega⟩
    have h1 := Chain.le h.2
    have h2 := needT_pos ps
    obtain ⟨k1, k2⟩ := h.1.rec_ ho hn hN hH (by omega) A fl hfl
    obtain ⟨fl', e⟩ := chain_says ho hn hN hH r (t + needT ps) u f 1 (putA A ps) h.2 (by omega) (by simp at hf; omega) (Nat.le_refl _) hno
    refine ⟨fl', ?_⟩
    unfold saysR
    rw [if_pos k1, k2, e]
    rfl
/-- nobody else has a count from u on -/
def OldV (V : Nat → List Nat) (n u : Nat) : Prop := ∀ j, j < n → V (2 + j) = nou ∨ ∃ p : Pc, p.ok ∧ V (2 + j) = sealL p ∧ p.c < u
theorem OldV.stop {u fl : Nat} {A : Nat → Option (List Nat)} (h : OldV V n u) (ho : On s N V) (hn : 2 ≤ n) (hN : n + 2 ≤ N) : ¬ RecOk s n H ⟨u, fl, A⟩ := by
  have hc : ∀ c, u ≤ c → goodP s n c → V (2 + c % n) = nou ∧ c = 0 := fun c hcu hg => by
    have hr := rdP_at ho (by omega) hN c
    rcases h (c % n) (Nat.mod_lt c (by omega)) with e | ⟨p, hp, e, hpc⟩
    · have h2 := hg.2
      rw [hr, e, dec_nou.1] at h2
      exact ⟨e, h2.symm⟩
    · have h2 := hg.2
      rw [hr, e, dec_seal hp] at h2
      omega
  have hs : scanV s n u = [] := by
    unfold scanV
    by_cases hg : goodP s n u
    · obtain ⟨e, h0⟩ := hc u (Nat.le_refl _) hg
      have hr := rdP_at ho (by omega) hN u
      rw [scan_more hg (by rw [hr, e]; exact dec_nou.2)]
      have hg1 : ¬ goodP s n (u + 1) := fun hg1 => by
        have := (hc (u + 1) (by omega) hg1).2
        omega
      rw [scan_no hg1]
      rfl
    · rw [scan_no hg]; rfl
  intro hk
  have := hk.1.1
  simp only at this
  rw [hs] at this
  simp at this
theorem OldV.mono {u u' : Nat} (h : OldV V n u) (hu : u ≤ u') : OldV V n u' := fun j hj => by
  rcases h j hj with e | ⟨p, hp, e, hpc⟩
  · exact .inl e
  · exact .inr ⟨p, hp, e, by omega⟩
theorem OldV.lay {u : Nat} {l : List Nat} (h : OldV V n u) (hc : cutE 1 u l.length = 0) : OldV (layV V n (cutP 1 u l)) n (u + needN l.length) := fun j hj => by
  rcases layV_or n (2 + j) (cutP 1 u l) V with e | ⟨p, hp, e⟩
  · rw [e]
    exact h.mono (by omega) j hj
  · obtain ⟨_, i, hi, ec⟩ := cutP_mem hp
    exact .inr ⟨p, cutP_ok hc p hp, e, by omega⟩
end
end Go.Proofs.YtcglfknkkeaegaaGreatDoor
