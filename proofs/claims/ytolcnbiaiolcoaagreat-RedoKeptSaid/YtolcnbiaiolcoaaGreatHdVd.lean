/- Save, the program's. -/
import Derived.Test.YtolcnbiaiolcoaaGreatMgHd
import Derived.Test.YtolcnbiaiolcoaaGreatHdL
import Derived.Test.YtolcnbiaiolcoaaGreatMgDl
import Derived.Test.YtolcnbiaiolcoaaGreatMgS
namespace Go.Proofs.YtolcnbiaiolcoaaGreat
open Go.RowKit

def saveS (s : DS) (n : Nat) (at_ : Int) (e : Nat) (h : Hd) : DS × Int :=
  if (0 ≤ at_ ∧ at_ + 1 < (n : Int)) ∧ hOk e h then (if (writeS s (at_ + ((h.g % 2 : Nat) : Int)) (hSec e h)).2 = 0 then flushS (writeS s (at_ + ((h.g % 2 : Nat) : Int)) (hSec e h)).1 else writeS s (at_ + ((h.g % 2 : Nat) : Int)) (hSec e h)) else (s, 2)
theorem saveS_no {s : DS} {n : Nat} {at_ : Int} {e : Nat} {h : Hd} (k : ¬ ((0 ≤ at_ ∧ at_ + 1 < (n : Int)) ∧ hOk e h)) : saveS s n at_ e h = (s, 2) := if_neg k
def PSaved (w : World) (F : Nat → Prop) (d n : Nat) (r : DS × Int) (x : Ending) (w' : World) : Prop := x = .returned (.int .i64 r.2) ∧ ∃ F', Dk w' F' d n r.1 ∧ Adv F w F' w'
theorem adv_after {F F' : Nat → Prop} {w w1 w2 : World} (h : Adv Nul w Nul w1) (k : Adv F w1 F' w2) : Adv F w F' w2 :=
  ⟨k.os.trans h.os, k.tape.trans h.tape, k.output.trans h.output, Nat.le_trans h.size k.size, fun j hj hn => (k.block j (Nat.lt_of_lt_of_le hj h.size) hn).trans (h.block j hj (fun x => x)), fun j hj => by
    rcases k.into j hj with h1 | h1
    · exact .inl h1
    · right; have := h.size; omega⟩
theorem save_at {at_ : Int} {n g : Nat} (h : 0 ≤ at_ ∧ at_ + 1 < (n : Int)) (hn : n ≤ 4096) : IntKind.i64.wrap (at_ + ((g % 2 : Nat) : Int)) = at_ + ((g % 2 : Nat) : Int) := by
  rw [IntKind.wrap_i64]; omega

set_option maxRecDepth 3000 in
set_option maxHeartbeats 6400000 in
theorem hsave_dk (d n : Nat) (F : Nat → Prop) (s : DS) (at_ : Int) (e : Nat) (h : Hd) (w : World) (hr : Dk w F d n s) (hq : s.Q.length ≤ 900000) (hn : n ≤ 4096) (hn1 : 2 ≤ n) (ht : h.t < 18446744073709551616) (hf : h.f < 18446744073709551616) :
    Calls Tryz.prog 95 #[.pointer (some ⟨d, 0, none⟩), .int .i64 at_, .int .u64 (e : Int), .agg #[.int .u64 (h.g : Int), .int .u64 (h.t : Int), .int .u64 (h.f : Int)]] w (PSaved w F d n (saveS s n at_ e h)) := by
  obtain ⟨g, t, f⟩ := h
  simp only at ht hf ⊢
  obtain ⟨y, hy⟩ : ∃ y, y = w.heap.size := ⟨_, rfl⟩
  obtain ⟨V, hV⟩ : ∃ V, V = w.alloc (.cells #[.int .u64 (g : Int), .int .u64 (t : Int), .int .u64 (f : Int)] 73) := ⟨_, rfl⟩
  have HY := Lib.hid (show Blk V y 73 #[.int .u64 (g : Int), .int .u64 (t : Int), .int .u64 (f : Int)] by rw [hV, hy]; exact Blk.new _ _ _)
  have HA := Lib.hid (show Adv Nul w Nul V by rw [hV]; exact (Adv.refl _ _).alloc _)
  have HR := Lib.hid (hr.far HA.out (fun _ h _ => h))
  have HV := Lib.hid hV
  have HYY := Lib.hid hy
  have HQ := Lib.hid hq
  have HSEC := Lib.hid (hseal_any e ⟨g, t, f⟩ V ht hf)
  have HN := Lib.hid hn
  have hw1 : IntKind.i64.wrap ((n : Int) - 2) = (n : Int) - 2 := by rw [IntKind.wrap_i64]; omega
  have hnz : ((n : Int) == 0) = false := by rw [beq_eq_false_iff_ne]; omega
  obtain ⟨s0, s1, s2⟩ := HY.out.three
  have hno : ∀ w1, Adv Nul V Nul w1 → ¬ ((0 ≤ at_ ∧ at_ + 1 < (n : Int)) ∧ hOk e ⟨g, t, f⟩) → PSaved w F d n (saveS s n at_ e ⟨g, t, f⟩) (.returned (.int .i64 2)) w1 := fun w1 ha hk => by
    rw [saveS_no hk]
    exact ⟨rfl, F, HR.out.far ha (fun _ h _ => h), (HA.out.trans ha).same (fun _ x => x.elim)⟩
  have HNO := Lib.hid hno
  have hsz := size_dk d n F s V HR.out
  have HSZ := Lib.hid hsz
  clear hr hV hy hq ht hf hn hn1 hno hsz
  go_enter Tryz.func95, Tryz.ntmps95
  go_upto_region 1 with (fail)
  rw [← HV.out, ← HYY.out]
  by_cases h0 : at_ < 0
  · have HF := Lib.hid (HNO.out V (Adv.refl _ _) (fun k => by omega))
    go_wp2_with fail
    refine HSZ.out.mono ?_
    rintro x w9 ⟨rfl, rfl⟩
    go_wp2_with fail
    go_ret
    exact HF.out
  · have h0' : 0 ≤ at_ := by omega
    clear h0
    by_cases h1 : (n : Int) - 2 < at_
    · have HF := Lib.hid (HNO.out V (Adv.refl _ _) (fun k => by omega))
      go_wp2_with fail
      refine HSZ.out.mono ?_
      rintro x w8 ⟨rfl, rfl⟩
      go_wp2_with fail
      refine HSZ.out.mono ?_
      rintro x w9 ⟨rfl, rfl⟩
      go_wp2_with fail
      go_ret
      exact HF.out
    · have h1' : at_ ≤ (n : Int) - 2 := by omega
      have HIN := Lib.hid (show 0 ≤ at_ ∧ at_ + 1 < (n : Int) by omega)
      clear h1
      go_wp2_with fail
      refine HSZ.out.mono ?_
      rintro x w8 ⟨rfl, rfl⟩
      go_wp2_with fail
      refine HSZ.out.mono ?_
      rintro x w9 ⟨rfl, rfl⟩
      go_wp2_with fail
      refine HSEC.out.mono ?_
      intro x w1 h1
      obtain ⟨A, m, k, F1, rfl, a1, p1, n1⟩ := h1
      obtain ⟨E, hE⟩ : ∃ E : Int, E = if hOk e ⟨g, t, f⟩ then 0 else 2 := ⟨_, rfl⟩
      rw [← hE]
      have HE := Lib.hid hE
      have HA1 := Lib.hid a1
      have HP1 := Lib.hid p1
      have HY1 := Lib.hid (HY.out.keep (a1.block y HY.out.lt (fun h => h)))
      have HSEP := Lib.hid (show ∀ j, (Value.slice A m k).ownBlock = some j → (hOk e ⟨g, t, f⟩) → ¬ F j from fun j hj ho hg => by
        obtain ⟨rfl, hs⟩ := p1 ho
        rcases a1.into j (hs.inF j hj) with h | h
        · exact h
        · have := HR.out.bd j hg; omega)
      have HAV := Lib.hid (HA.out.trans (a1.sub (G := Nul) (fun _ h => h.elim)))
      have HR1 := Lib.hid (HR.out.far a1 (fun _ h _ => h))
      obtain ⟨z0, z1, z2⟩ := HY1.out.three
      clear hE a1 p1 n1 s0 s1 s2
      by_cases hok : hOk e ⟨g, t, f⟩
      · obtain rfl : E = 0 := by rw [HE.out, if_pos hok]
        obtain ⟨rfl, hs⟩ := HP1.out hok
        have HOK := Lib.hid hok
        have HS := Lib.hid hs
        obtain ⟨r, hr⟩ : ∃ r, r = g % 2 := ⟨_, rfl⟩
        have hr3 : IntKind.i64.wrap (at_ + (r : Int)) = at_ + (r : Int) := by rw [hr]; exact save_at HIN.out HN.out
        obtain ⟨W, hW⟩ : ∃ W, W = writeS s (at_ + (r : Int)) (hSec e ⟨g, t, f⟩) := ⟨_, rfl⟩
        have hsv : saveS s n at_ e ⟨g, t, f⟩ = if W.2 = 0 then flushS W.1 else W := by
          unfold saveS
          rw [if_pos ⟨HIN.out, hok⟩, hW, hr]
        have HSV := Lib.hid hsv
        have hwr : ∀ v, Adv Nul w1 Nul v → Calls Tryz.prog 85 #[.pointer (some ⟨d, 0, none⟩), .int .i64 (at_ + (r : Int)), .slice A 128 k] v fun e w' => e = .returned (.int .i64 W.2) ∧ ∃ G', Dk w' G' d n W.1 ∧ Adv F v G' w' := fun v hv => by
          rw [hW]
          exact write_dk d n 128 _ _ F s _ v (HR1.out.far hv (fun _ h _ => h)) (hs.rd.far (fun _ _ _ h => hv.block _ h (fun h => h)) hv.size) (fun j hj hg => HSEP.out j hj hok hg) (by have := HQ.out; omega)
        have HWR := Lib.hid hwr
        obtain ⟨WE, hWE⟩ : ∃ E, E = W.2 := ⟨_, rfl⟩
        rw [← hWE] at HWR
        have HWE := Lib.hid hWE
        have HRR := Lib.hid hr
        clear hok hs hr hW hsv hwr hWE
        go_wp2_with fail
        refine (place_any g t f _).mono ?_
        rintro x w5 ⟨rfl, a5⟩
        rw [← HRR.out]
        have HA5 := Lib.hid a5
        clear a5
        go_wp2_with fail
        refine (HWR.out w5 HA5.out).mono ?_
        rintro x w2 ⟨rfl, G2, k2, t2⟩
        have HR2 := Lib.hid k2
        have HT2 := Lib.hid (adv_after HA5.out t2)
        clear k2 t2
        by_cases hz : WE = 0
        · subst hz
          go_wp2_with fail
          refine (flush_dk d n G2 W.1 w2 HR2.out).mono ?_
          rintro x w3 ⟨rfl, k3, t3⟩
          have HF := Lib.hid (show PSaved w F d n (saveS s n at_ e ⟨g, t, f⟩) (.returned (.int .i64 (flushS W.1).2)) w3 from by
            rw [HSV.out, if_pos HWE.out.symm]
            exact ⟨rfl, G2, k3, adv_after HAV.out (HT2.out.trans t3)⟩)
          obtain ⟨E3, hE3⟩ : ∃ E, E = (flushS W.1).2 := ⟨_, rfl⟩
          rw [← hE3] at HF ⊢
          clear k3 t3 hE3
          go_wp2_with fail
          go_ret
          exact HF.out
        · have hzb : (WE == 0) = false := by rw [beq_eq_false_iff_ne]; exact hz
          have HF := Lib.hid (show PSaved w F d n (saveS s n at_ e ⟨g, t, f⟩) (.returned (.int .i64 WE)) w2 from by
            rw [HSV.out, if_neg (by rw [← HWE.out]; exact hz)]
            exact ⟨by rw [HWE.out], G2, HR2.out, adv_after HAV.out HT2.out⟩)
          clear hz
          go_wp2_with fail
          go_ret
          exact HF.out
      · obtain rfl : E = 2 := by rw [HE.out, if_neg hok]
        have HF := Lib.hid (HNO.out w1 (HA1.out.sub (fun _ h => h.elim)) (fun k => hok k.2))
        clear hok
        go_wp2_with fail
        go_ret
        exact HF.out
end Go.Proofs.YtolcnbiaiolcoaaGreat
