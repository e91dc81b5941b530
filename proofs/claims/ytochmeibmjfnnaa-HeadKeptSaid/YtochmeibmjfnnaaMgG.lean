/- Save, both sides. The statements' lists of calls on heads; the bytes of disks stay bytes. HeadPlays: both disks and the call that is carried out. -/
import Derived.Test.YtochmeibmjfnnaaMgF
namespace Go.Proofs.Ytochmeibmjfnnaa
open Go.RowKit

def saveS (s : DS) (n : Nat) (at_ : Int) (e : Nat) (h : Hd) : DS × Int :=
  if (0 ≤ at_ ∧ at_ + 1 < (n : Int)) ∧ hOk e h then (if (writeS s (at_ + ((h.g % 2 : Nat) : Int)) (hSec e h)).2 = 0 then flushS (writeS s (at_ + ((h.g % 2 : Nat) : Int)) (hSec e h)).1 else writeS s (at_ + ((h.g % 2 : Nat) : Int)) (hSec e h)) else (s, 2)
theorem saveS_no {s : DS} {n : Nat} {at_ : Int} {e : Nat} {h : Hd} (k : ¬ ((0 ≤ at_ ∧ at_ + 1 < (n : Int)) ∧ hOk e h)) : saveS s n at_ e h = (s, 2) := if_neg k
def RSaved (w : World) (G : Nat → Prop) (c n : Nat) (r : DS × Int) (x : Ending) (w' : World) : Prop := x = .returned (.int .i64 r.2) ∧ ∃ G', Rk w' G' c n r.1 ∧ Adv G w G' w'
def PSaved (w : World) (F : Nat → Prop) (d n : Nat) (r : DS × Int) (x : Ending) (w' : World) : Prop := x = .returned (.int .i64 r.2) ∧ ∃ F', Dk w' F' d n r.1 ∧ Adv F w F' w'
theorem adv_after {F F' : Nat → Prop} {w w1 w2 : World} (h : Adv Nul w Nul w1) (k : Adv F w1 F' w2) : Adv F w F' w2 :=
  ⟨k.os.trans h.os, k.tape.trans h.tape, k.output.trans h.output, Nat.le_trans h.size k.size, fun j hj hn => (k.block j (Nat.lt_of_lt_of_le hj h.size) hn).trans (h.block j hj (fun x => x)), fun j hj => by
    rcases k.into j hj with h1 | h1
    · exact .inl h1
    · right; have := h.size; omega⟩
theorem save_at {at_ : Int} {n g : Nat} (h : 0 ≤ at_ ∧ at_ + 1 < (n : Int)) (hn : n ≤ 4096) : IntKind.i64.wrap (at_ + ((g % 2 : Nat) : Int)) = at_ + ((g % 2 : Nat) : Int) := by
  rw [IntKind.wrap_i64]; omega

set_option maxRecDepth 3000 in
set_option maxHeartbeats 6400000 in
theorem rsave_dk (c n : Nat) (G : Nat → Prop) (s : DS) (at_ : Int) (e : Nat) (h : Hd) (w : World) (hr : Rk w G c n s) (hq : s.Q.length ≤ 900000) (hn : n ≤ 4096) (hn1 : 1 ≤ n) (ht : h.t < 18446744073709551616) (hf : h.f < 18446744073709551616) :
    Calls Try.prog 9 #[.pointer (some ⟨c, 0, none⟩), .int .i64 at_, .int .u64 (e : Int), .agg #[.int .u64 (h.g : Int), .int .u64 (h.t : Int), .int .u64 (h.f : Int)]] w (RSaved w G c n (saveS s n at_ e h)) := by
  obtain ⟨g, t, f⟩ := h
  simp only at ht hf ⊢
  obtain ⟨y, hy⟩ : ∃ y, y = w.heap.size := ⟨_, rfl⟩
  obtain ⟨V, hV⟩ : ∃ V, V = w.alloc (.cells #[.int .u64 (g : Int), .int .u64 (t : Int), .int .u64 (f : Int)] 32) := ⟨_, rfl⟩
  have HY := Lib.hid (show Blk V y 32 #[.int .u64 (g : Int), .int .u64 (t : Int), .int .u64 (f : Int)] by rw [hV, hy]; exact Blk.new _ _ _)
  have HA := Lib.hid (show Adv Nul w Nul V by rw [hV]; exact (Adv.refl _ _).alloc _)
  have HR := Lib.hid (hr.far HA.out (fun _ h _ => h))
  have HV := Lib.hid hV
  have HYY := Lib.hid hy
  have HQ := Lib.hid hq
  have HSEC := Lib.hid (rsector_any e ⟨g, t, f⟩ V ht hf)
  have HN := Lib.hid hn
  have HN1 := Lib.hid hn1
  have hw1 : IntKind.i64.wrap ((n : Int) - 1) = (n : Int) - 1 := by rw [IntKind.wrap_i64]; omega
  obtain ⟨s0, s1, s2⟩ := HY.out.three
  clear hr hV hy hq ht hf hn hn1
  go_enter Try.func9, Try.ntmps9
  go_upto_region 1 with (fail)
  rw [← HV.out, ← HYY.out]
  go_wp2_with fail
  refine HSEC.out.mono ?_
  intro x w1 h1
  obtain ⟨A, m, k, F1, rfl, a1, p1, n1⟩ := h1
  obtain ⟨B, hB⟩ : ∃ B, B = decide (hOk e ⟨g, t, f⟩) := ⟨_, rfl⟩
  rw [← hB]
  have HB := Lib.hid hB
  have HA1 := Lib.hid a1
  have HP1 := Lib.hid p1
  have hY1 := HY.out.keep (a1.block y HY.out.lt (fun h => h))
  have hr1 := HR.out.far a1 (fun _ h _ => h)
  have HSEP := Lib.hid (show ∀ j, (Value.slice A m k).ownBlock = some j → (hOk e ⟨g, t, f⟩) → ¬ G j from fun j hj ho hg => by
    obtain ⟨rfl, hs⟩ := p1 ho
    rcases a1.into j (hs.inF j hj) with h | h
    · exact h
    · have := HR.out.bd j hg; omega)
  have HAV := Lib.hid (HA.out.trans (a1.sub (G := Nul) (fun _ h => h.elim)))
  have HR1 := Lib.hid hr1
  obtain ⟨vL, vQ, ls, ps, hI⟩ := hr1
  obtain ⟨aL, cL, rfl, _, _⟩ := hI.l.form0
  have c0 := hI.c0
  have HY1 := Lib.hid hY1
  obtain ⟨z0, z1, z2⟩ := hY1.three
  clear hB a1 p1 n1 hY1 hI s0 s1 s2
  have hno : ¬ ((0 ≤ at_ ∧ at_ + 1 < (n : Int)) ∧ hOk e ⟨g, t, f⟩) → RSaved w G c n (saveS s n at_ e ⟨g, t, f⟩) (.returned (.int .i64 2)) w1 := fun hk => by
    rw [saveS_no hk]
    exact ⟨rfl, G, HR1.out, HAV.out.same (fun _ x => x.elim)⟩
  have HNO := Lib.hid hno
  clear hno
  by_cases h0 : at_ < 0
  · have HF := Lib.hid (HNO.out (fun k => by omega))
    go_wp2_with fail
    go_ret
    exact HF.out
  · by_cases h1 : (n : Int) - 1 ≤ at_
    · have HF := Lib.hid (HNO.out (fun k => by omega))
      have h0' : 0 ≤ at_ := by omega
      clear h0
      go_wp2_with fail
      go_ret
      exact HF.out
    · have h0' : 0 ≤ at_ := by omega
      have h1' : at_ < (n : Int) - 1 := by omega
      have HIN := Lib.hid (show 0 ≤ at_ ∧ at_ + 1 < (n : Int) by omega)
      clear h0 h1
      cases B with
      | false =>
        have HF := Lib.hid (HNO.out (fun k => of_decide_eq_false HB.out.symm k.2))
        go_wp2_with fail
        go_ret
        exact HF.out
      | true =>
        have hok := of_decide_eq_true HB.out.symm
        obtain ⟨rfl, hs⟩ := HP1.out hok
        have HOK := Lib.hid hok
        have HS := Lib.hid hs
        obtain ⟨r, hr⟩ : ∃ r, r = g % 2 := ⟨_, rfl⟩
        have hr0 : (g : Int).tmod 2 = (r : Int) := by rw [hr]; exact rfl
        have hr1 : (g : Int) % 2 = (r : Int) := by rw [hr]; rfl
        have hr2 : IntKind.i64.wrap (r : Int) = (r : Int) := by rw [IntKind.wrap_i64]; omega
        have hr3 : IntKind.i64.wrap (at_ + (r : Int)) = at_ + (r : Int) := by rw [hr]; exact save_at HIN.out HN.out
        obtain ⟨W, hW⟩ : ∃ W, W = writeS s (at_ + (r : Int)) (hSec e ⟨g, t, f⟩) := ⟨_, rfl⟩
        have hsv : saveS s n at_ e ⟨g, t, f⟩ = if W.2 = 0 then flushS W.1 else W := by
          unfold saveS
          rw [if_pos ⟨HIN.out, hok⟩, hW, hr]
        have HSV := Lib.hid hsv
        have hwr : Calls Try.prog 13 #[.pointer (some ⟨c, 0, none⟩), .int .i64 (at_ + (r : Int)), .slice A 128 k] w1 fun e w' => e = .returned (.int .i64 W.2) ∧ ∃ G', Rk w' G' c n W.1 ∧ Adv G w1 G' w' := by
          rw [hW]
          exact rwrite_dk c n 128 _ _ G s _ w1 HR1.out hs.rd (fun j hj hg => HSEP.out j hj hok hg) (by have := HQ.out; omega)
        have HWR := Lib.hid hwr
        have hqw : W.1.Q.length ≤ 1000000 := by rw [hW]; exact Nat.le_trans (few_write s _ _) (by have := HQ.out; omega)
        have HQW := Lib.hid hqw
        obtain ⟨WE, hWE⟩ : ∃ E, E = W.2 := ⟨_, rfl⟩
        rw [← hWE] at HWR
        have HWE := Lib.hid hWE
        clear hok hs hr hW hsv hwr hqw hWE
        go_wp2_with fail
        refine HWR.out.mono ?_
        rintro x w2 ⟨rfl, G2, k2, t2⟩
        have HR2 := Lib.hid k2
        have HT2 := Lib.hid t2
        clear k2 t2
        by_cases hz : WE = 0
        · subst hz
          go_wp2_with fail
          refine (rflush_dk c n G2 W.1 w2 HR2.out HN1.out HQW.out).mono ?_
          rintro x w3 ⟨rfl, k3, t3⟩
          have HF := Lib.hid (show RSaved w G c n (saveS s n at_ e ⟨g, t, f⟩) (.returned (.int .i64 (flushS W.1).2)) w3 from by
            rw [HSV.out, if_pos HWE.out.symm]
            exact ⟨rfl, G2, k3, adv_after HAV.out (HT2.out.trans t3)⟩)
          obtain ⟨E3, hE3⟩ : ∃ E, E = (flushS W.1).2 := ⟨_, rfl⟩
          rw [← hE3] at HF ⊢
          clear k3 t3 hE3
          go_wp2_with fail
          go_ret
          exact HF.out
        · have hzb : (WE == 0) = false := by rw [beq_eq_false_iff_ne]; exact hz
          have HF := Lib.hid (show RSaved w G c n (saveS s n at_ e ⟨g, t, f⟩) (.returned (.int .i64 WE)) w2 from by
            rw [HSV.out, if_neg (by rw [← HWE.out]; exact hz)]
            exact ⟨by rw [HWE.out], G2, HR2.out, adv_after HAV.out HT2.out⟩)
          clear hz
          go_wp2_with fail
          go_ret
          exact HF.out
set_option maxRecDepth 3000 in
set_option maxHeartbeats 6400000 in
theorem hsave_dk (d n : Nat) (F : Nat → Prop) (s : DS) (at_ : Int) (e : Nat) (h : Hd) (w : World) (hr : Dk w F d n s) (hq : s.Q.length ≤ 900000) (hn : n ≤ 4096) (hn1 : 2 ≤ n) (ht : h.t < 18446744073709551616) (hf : h.f < 18446744073709551616) :
    Calls Try.prog 8 #[.pointer (some ⟨d, 0, none⟩), .int .i64 at_, .int .u64 (e : Int), .agg #[.int .u64 (h.g : Int), .int .u64 (h.t : Int), .int .u64 (h.f : Int)]] w (PSaved w F d n (saveS s n at_ e h)) := by
  obtain ⟨g, t, f⟩ := h
  simp only at ht hf ⊢
  obtain ⟨y, hy⟩ : ∃ y, y = w.heap.size := ⟨_, rfl⟩
  obtain ⟨V, hV⟩ : ∃ V, V = w.alloc (.cells #[.int .u64 (g : Int), .int .u64 (t : Int), .int .u64 (f : Int)] 38) := ⟨_, rfl⟩
  have HY := Lib.hid (show Blk V y 38 #[.int .u64 (g : Int), .int .u64 (t : Int), .int .u64 (f : Int)] by rw [hV, hy]; exact Blk.new _ _ _)
  have HA := Lib.hid (show Adv Nul w Nul V by rw [hV]; exact (Adv.refl _ _).alloc _)
  have HR := Lib.hid (hr.far HA.out (fun _ h _ => h))
  have HV := Lib.hid hV
  have HYY := Lib.hid hy
  have HQ := Lib.hid hq
  have HSEC := Lib.hid (hseal_any e ⟨g, t, f⟩ V ht hf)
  have HN := Lib.hid hn
  have hw1 : IntKind.i64.wrap ((n : Int) - 2) = (n : Int) - 2 := by rw [IntKind.wrap_i64]; omega
  have hnz : ((n : Int) == 0) = false := by rw [beq_eq_false_iff_ne]; omega
  obtain ⟨s0, s1, s2⟩ := HY.out.three
  have hno : ∀ w1, Adv Nul V Nul w1 → ¬ ((0 ≤ at_ ∧ at_ + 1 < (n : Int)) ∧ hOk e ⟨g, t, f⟩) → PSaved w F d n (saveS s n at_ e ⟨g, t, f⟩) (.returned (.int .i64 2)) w1 := fun w1 ha hk => by
    rw [saveS_no hk]
    exact ⟨rfl, F, HR.out.far ha (fun _ h _ => h), (HA.out.trans ha).same (fun _ x => x.elim)⟩
  have HNO := Lib.hid hno
  have hsz := size_dk d n F s V HR.out
  have HSZ := Lib.hid hsz
  clear hr hV hy hq ht hf hn hn1 hno hsz
  go_enter Try.func8, Try.ntmps8
  go_upto_region 1 with (fail)
  rw [← HV.out, ← HYY.out]
  by_cases h0 : at_ < 0
  · have HF := Lib.hid (HNO.out V (Adv.refl _ _) (fun k => by omega))
    go_wp2_with fail
    refine HSZ.out.mono ?_
    rintro x w9 ⟨rfl, rfl⟩
    go_wp2_with fail
    go_ret
    exact HF.out
  · have h0' : 0 ≤ at_ := by omega
    clear h0
    by_cases h1 : (n : Int) - 2 < at_
    · have HF := Lib.hid (HNO.out V (Adv.refl _ _) (fun k => by omega))
      go_wp2_with fail
      refine HSZ.out.mono ?_
      rintro x w8 ⟨rfl, rfl⟩
      go_wp2_with fail
      refine HSZ.out.mono ?_
      rintro x w9 ⟨rfl, rfl⟩
      go_wp2_with fail
      go_ret
      exact HF.out
    · have h1' : at_ ≤ (n : Int) - 2 := by omega
      have HIN := Lib.hid (show 0 ≤ at_ ∧ at_ + 1 < (n : Int) by omega)
      clear h1
      go_wp2_with fail
      refine HSZ.out.mono ?_
      rintro x w8 ⟨rfl, rfl⟩
      go_wp2_with fail
      refine HSZ.out.mono ?_
      rintro x w9 ⟨rfl, rfl⟩
      go_wp2_with fail
      refine HSEC.out.mono ?_
      intro x w1 h1
      obtain ⟨A, m, k, F1, rfl, a1, p1, n1⟩ := h1
      obtain ⟨E, hE⟩ : ∃ E : Int, E = if hOk e ⟨g, t, f⟩ then 0 else 2 := ⟨_, rfl⟩
      rw [← hE]
      have HE := Lib.hid hE
      have HA1 := Lib.hid a1
      have HP1 := Lib.hid p1
      have HY1 := Lib.hid (HY.out.keep (a1.block y HY.out.lt (fun h => h)))
      have HSEP := Lib.hid (show ∀ j, (Value.slice A m k).ownBlock = some j → (hOk e ⟨g, t, f⟩) → ¬ F j from fun j hj ho hg => by
        obtain ⟨rfl, hs⟩ := p1 ho
        rcases a1.into j (hs.inF j hj) with h | h
        · exact h
        · have := HR.out.bd j hg; omega)
      have HAV := Lib.hid (HA.out.trans (a1.sub (G := Nul) (fun _ h => h.elim)))
      have HR1 := Lib.hid (HR.out.far a1 (fun _ h _ => h))
      obtain ⟨z0, z1, z2⟩ := HY1.out.three
      clear hE a1 p1 n1 s0 s1 s2
      by_cases hok : hOk e ⟨g, t, f⟩
      · obtain rfl : E = 0 := by rw [HE.out, if_pos hok]
        obtain ⟨rfl, hs⟩ := HP1.out hok
        have HOK := Lib.hid hok
        have HS := Lib.hid hs
        obtain ⟨r, hr⟩ : ∃ r, r = g % 2 := ⟨_, rfl⟩
        have hr3 : IntKind.i64.wrap (at_ + (r : Int)) = at_ + (r : Int) := by rw [hr]; exact save_at HIN.out HN.out
        obtain ⟨W, hW⟩ : ∃ W, W = writeS s (at_ + (r : Int)) (hSec e ⟨g, t, f⟩) := ⟨_, rfl⟩
        have hsv : saveS s n at_ e ⟨g, t, f⟩ = if W.2 = 0 then flushS W.1 else W := by
          unfold saveS
          rw [if_pos ⟨HIN.out, hok⟩, hW, hr]
        have HSV := Lib.hid hsv
        have hwr : ∀ v, Adv Nul w1 Nul v → Calls Try.prog 10 #[.pointer (some ⟨d, 0, none⟩), .int .i64 (at_ + (r : Int)), .slice A 128 k] v fun e w' => e = .returned (.int .i64 W.2) ∧ ∃ G', Dk w' G' d n W.1 ∧ Adv F v G' w' := fun v hv => by
          rw [hW]
          exact write_dk d n 128 _ _ F s _ v (HR1.out.far hv (fun _ h _ => h)) (hs.rd.far (fun _ _ _ h => hv.block _ h (fun h => h)) hv.size) (fun j hj hg => HSEP.out j hj hok hg) (by have := HQ.out; omega)
        have HWR := Lib.hid hwr
        obtain ⟨WE, hWE⟩ : ∃ E, E = W.2 := ⟨_, rfl⟩
        rw [← hWE] at HWR
        have HWE := Lib.hid hWE
        have HRR := Lib.hid hr
        clear hok hs hr hW hsv hwr hWE
        go_wp2_with fail
        refine (place_any g t f _).mono ?_
        rintro x w5 ⟨rfl, a5⟩
        rw [← HRR.out]
        have HA5 := Lib.hid a5
        clear a5
        go_wp2_with fail
        refine (HWR.out w5 HA5.out).mono ?_
        rintro x w2 ⟨rfl, G2, k2, t2⟩
        have HR2 := Lib.hid k2
        have HT2 := Lib.hid (adv_after HA5.out t2)
        clear k2 t2
        by_cases hz : WE = 0
        · subst hz
          go_wp2_with fail
          refine (flush_dk d n G2 W.1 w2 HR2.out).mono ?_
          rintro x w3 ⟨rfl, k3, t3⟩
          have HF := Lib.hid (show PSaved w F d n (saveS s n at_ e ⟨g, t, f⟩) (.returned (.int .i64 (flushS W.1).2)) w3 from by
            rw [HSV.out, if_pos HWE.out.symm]
            exact ⟨rfl, G2, k3, adv_after HAV.out (HT2.out.trans t3)⟩)
          obtain ⟨E3, hE3⟩ : ∃ E, E = (flushS W.1).2 := ⟨_, rfl⟩
          rw [← hE3] at HF ⊢
          clear k3 t3 hE3
          go_wp2_with fail
          go_ret
          exact HF.out
        · have hzb : (WE == 0) = false := by rw [beq_eq_false_iff_ne]; exact hz
          have HF := Lib.hid (show PSaved w F d n (saveS s n at_ e ⟨g, t, f⟩) (.returned (.int .i64 WE)) w2 from by
            rw [HSV.out, if_neg (by rw [← HWE.out]; exact hz)]
            exact ⟨by rw [HWE.out], G2, HR2.out, adv_after HAV.out HT2.out⟩)
          clear hz
          go_wp2_with fail
          go_ret
          exact HF.out
      · obtain rfl : E = 2 := by rw [HE.out, if_neg hok]
        have HF := Lib.hid (HNO.out w1 (HA1.out.sub (fun _ h => h.elim)) (fun k => hok k.2))
        clear hok
        go_wp2_with fail
        go_ret
        exact HF.out
end Go.Proofs.Ytochmeibmjfnnaa
namespace Go.Proofs.Ytochmeibmjfnnaa
open Go.ChangeShapes Go.WideShapes Go.ChangeAt Go.RowKit Go.Deep

structure HDo where
  kind : Int
  a : Int
  n : Int
  e : Nat
  h : Hd
  bv : Value
  b : List Nat
  kv : Value
  ks : List Int
def HDo.cells (d : HDo) : List Value := [.int .i64 d.kind, .int .i64 d.a, .int .i64 d.n, .int .u64 (d.e : Int), .int .u64 (d.h.g : Int), .int .u64 (d.h.t : Int), .int .u64 (d.h.f : Int), d.bv, d.kv]
structure HDo.fit (W : World) (d : HDo) : Prop where
  b : In W d.bv d.b
  k : Rd W 1 d.kv d.ks.length (d.ks.map (Value.int .i64))
  kold : ∀ b, d.kv.ownBlock = some b → 0 < d.ks.length → b < W.heap.size
  na : -9223372036854775808 ≤ d.a ∧ d.a < 9223372036854775808
  nn : d.n < 9223372036854775808
  ht : d.h.t < 18446744073709551616
  hf : d.h.f < 18446744073709551616
structure HDosIn (W : World) (v : Value) (ds : List HDo) : Prop where
  rd : Rd W 9 v ds.length (ds.flatMap HDo.cells)
  fit : ∀ d ∈ ds, d.fit W
structure NineAt (w : World) (b p : Nat) (x : HDo) : Prop where
  c0 : w.cell? ⟨b, p, none⟩ = some (.int .i64 x.kind)
  c1 : w.cell? ⟨b, p + 1, none⟩ = some (.int .i64 x.a)
  c2 : w.cell? ⟨b, p + 2, none⟩ = some (.int .i64 x.n)
  c3 : w.cell? ⟨b, p + 3, none⟩ = some (.int .u64 (x.e : Int))
  c4 : w.cell? ⟨b, p + 4, none⟩ = some (.int .u64 (x.h.g : Int))
  c5 : w.cell? ⟨b, p + 5, none⟩ = some (.int .u64 (x.h.t : Int))
  c6 : w.cell? ⟨b, p + 6, none⟩ = some (.int .u64 (x.h.f : Int))
  c7 : w.cell? ⟨b, p + 7, none⟩ = some x.bv
  c8 : w.cell? ⟨b, p + 8, none⟩ = some x.kv
set_option maxRecDepth 3000 in
theorem HDosIn.nine {W : World} {v : Value} {ds : List HDo} (h : HDosIn W v ds) {k : Nat} (hk : k < ds.length) :
    ∃ b o c, v = .slice (some ⟨b, o, none⟩) ds.length c ∧ ∀ w', Below W.heap.size W w' → NineAt w' b (o + k * 9) ds[k] := by
  obtain ⟨A, c, rfl, _, _⟩ := h.rd.form
  obtain ⟨b, o, rfl, hb, hc⟩ := h.rd.cells (by omega) (by decide)
  have H : ∀ w' j u, Below W.heap.size W w' → j < 9 → (ds[k].cells)[j]? = some u → w'.cell? ⟨b, o + k * 9 + j, none⟩ = some u := fun w' j u hB hj hu => by
    refine (World.cell?_of_block (hB.block b hb)).trans ?_
    rw [Nat.add_assoc]
    refine hc _ _ ?_
    rw [flat_at HDo.cells 9 ds (fun _ _ => rfl) k j hk hj]
    exact hu
  exact ⟨b, o, c, rfl, fun w' hB => ⟨H w' 0 _ hB (by decide) rfl, H w' 1 _ hB (by decide) rfl, H w' 2 _ hB (by decide) rfl, H w' 3 _ hB (by decide) rfl, H w' 4 _ hB (by decide) rfl, H w' 5 _ hB (by decide) rfl, H w' 6 _ hB (by decide) rfl, H w' 7 _ hB (by decide) rfl, H w' 8 _ hB (by decide) rfl⟩⟩
set_option maxRecDepth 3000 in
theorem cellsHDo : Try.prog.cellsOf 36 = 9 := by kernel_rfl
set_option maxRecDepth 3000 in
theorem cellsRHead : Try.prog.cellsOf 32 = 3 := by kernel_rfl
set_option maxRecDepth 3000 in
theorem i64_both {x : Int} (h : (Lit.int .i64 x).wf = true) : -9223372036854775808 ≤ x ∧ x < 9223372036854775808 := by
  have hb := bounds_i64 h
  omega
set_option maxRecDepth 3000 in
theorem open_rhead {H : Type} {enc : TypeId × Value → H} {W : World} {n : Nat} {cs : List Value} {x : DataW H × List MemPlace} (h : DataW.trod enc Try.prog W 0 (fun _ => true) true n 32 cs = some x) :
    ∃ d : Hd, cs = [.int .u64 (d.g : Int), .int .u64 (d.t : Int), .int .u64 (d.f : Int)] ∧ d.t < 18446744073709551616 ∧ d.f < 18446744073709551616 := by
  obtain ⟨xs, m, _, _, hlen, hxl, hf⟩ := DataW.trod_struct Try.underlying32 h
  rw [cellsRHead] at hlen
  match cs, hlen with
  | [c0, c1, c2], _ =>
    match xs, hxl with
    | [y0, y1, y2], _ =>
      have f0 := hf 0 _ rfl
      have f1 := hf 1 _ rfl
      have f2 := hf 2 _ rfl
      change DataW.trod enc Try.prog W 0 (fun _ => true) true m 30 ((([c0, c1, c2] : List Value).drop 0).take (Try.prog.cellsOf 30)) = some y0 at f0
      change DataW.trod enc Try.prog W 0 (fun _ => true) true m 30 ((([c0, c1, c2] : List Value).drop 1).take (Try.prog.cellsOf 30)) = some y1 at f1
      change DataW.trod enc Try.prog W 0 (fun _ => true) true m 30 ((([c0, c1, c2] : List Value).drop 2).take (Try.prog.cellsOf 30)) = some y2 at f2
      rw [cellsU64] at f0 f1 f2
      obtain ⟨a0, e0, _, w0⟩ := DataW.trod_int Try.underlying30 f0
      obtain ⟨a1, e1, _, w1⟩ := DataW.trod_int Try.underlying30 f1
      obtain ⟨a2, e2, _, w2⟩ := DataW.trod_int Try.underlying30 f2
      simp at e0 e1 e2
      obtain ⟨n0, rfl, _⟩ := u64_nat w0
      obtain ⟨n1, rfl, h1⟩ := u64_nat w1
      obtain ⟨n2, rfl, h2⟩ := u64_nat w2
      subst e0 e1 e2
      exact ⟨⟨n0, n1, n2⟩, rfl, h1, h2⟩
set_option maxRecDepth 3000 in
theorem open_hdo {H : Type} {enc : TypeId × Value → H} {W : World} {n : Nat} {cs : List Value} {x : DataW H × List MemPlace} (h : DataW.trod enc Try.prog W 0 (fun _ => true) true n 36 cs = some x) :
    ∃ d : HDo, cs = d.cells ∧ d.fit W := by
  obtain ⟨xs, m, _, _, hlen, hxl, hf⟩ := DataW.trod_struct Try.underlying36 h
  rw [cellsHDo] at hlen
  match cs, hlen with
  | [c0, c1, c2, c3, c4, c5, c6, c7, c8], _ =>
    match xs, hxl with
    | [y0, y1, y2, y3, y4, y5, y6], _ =>
      have f0 := hf 0 _ rfl
      have f1 := hf 1 _ rfl
      have f2 := hf 2 _ rfl
      have f3 := hf 3 _ rfl
      have f4 := hf 4 _ rfl
      have f5 := hf 5 _ rfl
      have f6 := hf 6 _ rfl
      change DataW.trod enc Try.prog W 0 (fun _ => true) true m 3 ((([c0, c1, c2, c3, c4, c5, c6, c7, c8] : List Value).drop 0).take (Try.prog.cellsOf 3)) = some y0 at f0
      change DataW.trod enc Try.prog W 0 (fun _ => true) true m 3 ((([c0, c1, c2, c3, c4, c5, c6, c7, c8] : List Value).drop 1).take (Try.prog.cellsOf 3)) = some y1 at f1
      change DataW.trod enc Try.prog W 0 (fun _ => true) true m 3 ((([c0, c1, c2, c3, c4, c5, c6, c7, c8] : List Value).drop 2).take (Try.prog.cellsOf 3)) = some y2 at f2
      change DataW.trod enc Try.prog W 0 (fun _ => true) true m 30 ((([c0, c1, c2, c3, c4, c5, c6, c7, c8] : List Value).drop 3).take (Try.prog.cellsOf 30)) = some y3 at f3
      change DataW.trod enc Try.prog W 0 (fun _ => true) true m 32 ((([c0, c1, c2, c3, c4, c5, c6, c7, c8] : List Value).drop 4).take (Try.prog.cellsOf 32)) = some y4 at f4
      change DataW.trod enc Try.prog W 0 (fun _ => true) true m 33 ((([c0, c1, c2, c3, c4, c5, c6, c7, c8] : List Value).drop 7).take (Try.prog.cellsOf 33)) = some y5 at f5
      change DataW.trod enc Try.prog W 0 (fun _ => true) true m 34 ((([c0, c1, c2, c3, c4, c5, c6, c7, c8] : List Value).drop 8).take (Try.prog.cellsOf 34)) = some y6 at f6
      rw [cellsInt] at f0 f1 f2
      rw [cellsU64] at f3
      rw [cellsRHead] at f4
      rw [cellsBytes] at f5
      rw [cellsInts] at f6
      obtain ⟨a0, e0, _, _⟩ := DataW.trod_int Try.underlying3 f0
      obtain ⟨a1, e1, _, w1⟩ := DataW.trod_int Try.underlying3 f1
      obtain ⟨a2, e2, _, w2⟩ := DataW.trod_int Try.underlying3 f2
      obtain ⟨a3, e3, _, w3⟩ := DataW.trod_int Try.underlying30 f3
      obtain ⟨hd, e4, ht, hff⟩ := open_rhead f4
      obtain ⟨l, hl⟩ := In.of_rd_ints (open_cell_ints Try.underlying33 Try.underlying5 (by kernel_rfl) (v := c7) f5)
      obtain ⟨nk, ks, k1, k2, _, k4⟩ := open_cell_ints Try.underlying34 Try.underlying3 cellsInt (v := c8) f6
      simp at e0 e1 e2 e3 e4
      obtain ⟨n3, rfl, _⟩ := u64_nat w3
      obtain ⟨e4, e5, e6⟩ := e4
      subst e0 e1 e2 e3 e4 e5 e6 k2
      exact ⟨⟨a0, a1, a2, n3, hd, c7, l, c8, ks⟩, rfl, hl, k1, k4, i64_both w1, i64_wf w2, ht, hff⟩
set_option maxRecDepth 3000 in
theorem open_hdos {H : Type} {enc : TypeId × Value → H} {W : World} {base : Nat} {r : Reach} {v : Value} {d : DataW H} {p : List MemPlace} (hv : Value.okWide Try.prog W r base 22 v) (h : DataW.Trod enc Try.prog W 0 (fun _ => true) true 22 v d p) : ∃ ds, HDosIn W v ds := by
  obtain ⟨a, len, cap, rfl⟩ := okWide_slice Try.underlying22 hv
  obtain ⟨fuel, hf⟩ := h
  rcases open_slice Try.underlying22 hf with ⟨hcs, _⟩ | ⟨x, l, c, m, n, D, Pl, hcs, _, hl, hm, hmm, _, hi⟩
  · simp [Value.cells] at hcs
    obtain ⟨rfl, rfl, rfl⟩ := hcs
    exact ⟨[], ⟨⟨none, 0, rfl, Nat.le_refl _, Nat.zero_le _, rfl, fun _ => rfl, fun hn => absurd hn (by simp)⟩, fun _ hz => by simp at hz⟩⟩
  · simp [Value.cells] at hcs
    obtain ⟨rfl, rfl, rfl⟩ := hcs
    simp only [if_true] at hmm
    have H1 : ∀ i, i < len → ∃ d : HDo, (∀ j, j < 9 → W.cell? (x.add (i * 9 + j)) = d.cells[j]?) ∧ d.fit W := by
      intro i hil
      obtain ⟨cs', hc, ht⟩ := hi i (by omega)
      rw [cellsHDo] at hc
      obtain ⟨d, rfl, h1⟩ := open_hdo ht
      obtain ⟨_, _, hat⟩ := World.cells?_some hc
      refine ⟨d, fun j hj => ?_, h1⟩
      rw [← hat j hj, Go.Deep.add_add]
    obtain ⟨ds, hdl, hd⟩ : ∃ ds : List HDo, ds.length = len ∧ ∀ i (h : i < ds.length), (∀ j, j < 9 → W.cell? (x.add (i * 9 + j)) = ds[i].cells[j]?) ∧ ds[i].fit W := by
      clear hi hf
      have : ∀ n : Nat, (∀ i, i < n → ∃ d : HDo, (∀ j, j < 9 → W.cell? (x.add (i * 9 + j)) = d.cells[j]?) ∧ d.fit W) → ∃ ds : List HDo, ds.length = n ∧ ∀ i (h : i < ds.length), (∀ j, j < 9 → W.cell? (x.add (i * 9 + j)) = ds[i].cells[j]?) ∧ ds[i].fit W := by
        intro n
        induction n with
        | zero => exact fun _ => ⟨[], rfl, fun i h => absurd h (by simp)⟩
        | succ n ih =>
          intro H
          obtain ⟨ds, hl, hd⟩ := ih (fun i hi => H i (by omega))
          obtain ⟨d, hq⟩ := H n (by omega)
          refine ⟨ds ++ [d], by simp [hl], fun i h => ?_⟩
          rw [List.length_append, List.length_singleton] at h
          by_cases hi : i < ds.length
          · rw [List.getElem_append_left hi]; exact hd i hi
          · have e : i = n := by omega
            subst e
            rw [List.getElem_append_right (by omega)]
            simpa [hl] using hq
      exact this len H1
    have hfl : (ds.flatMap HDo.cells).length = ds.length * 9 := flat_length HDo.cells 9 ds (fun _ _ => rfl)
    refine ⟨ds, ⟨⟨some x, cap, by rw [hdl], by omega, hm, hfl, fun hn => (by cases hn), fun hn => ⟨x, rfl, ?_, ?_⟩⟩, ?_⟩⟩
    · have h0 := (hd 0 hn).1 0 (by decide)
      have := World.block_lt_of_cell? _ _ (h0.trans rfl)
      rwa [add_block] at this
    · intro j u hu
      have hjl : j < (ds.flatMap HDo.cells).length := (List.getElem?_eq_some_iff.1 hu).1
      rw [hfl] at hjl
      have hk : j / 9 < ds.length := by omega
      have hj6 : j % 9 < 9 := by omega
      have e : j = j / 9 * 9 + j % 9 := by omega
      rw [e] at hu ⊢
      rw [(hd (j / 9) hk).1 (j % 9) hj6, ← hu, flat_at HDo.cells 9 ds (fun _ _ => rfl) (j / 9) (j % 9) hk hj6]
    · intro d hdm
      obtain ⟨i, hi2, rfl⟩ := List.getElem_of_mem hdm
      exact (hd i hi2).2

/-- every byte of the disk is one -/
def B1 (l : List Nat) : Prop := ∀ x ∈ l, x < 256
structure SBw (s : DS) : Prop where
  L : ∀ r ∈ s.L, B1 r
  Q : ∀ q ∈ s.Q, B1 q.2
set_option maxRecDepth 3000 in
theorem B1.getD {L : List (List Nat)} (h : ∀ r ∈ L, B1 r) (i : Nat) : B1 (L.getD i []) := by
  rw [List.getD_eq_getElem?_getD]
  cases e : L[i]? with
  | none => exact fun x hx => by simp at hx
  | some r => exact h r (List.mem_of_getElem? e)
set_option maxRecDepth 3000 in
theorem layN_b {L : List (List Nat)} {q : Nat × List Nat} (m : Nat) (h : ∀ r ∈ L, B1 r) (hq : B1 q.2) : ∀ r ∈ layN L q m, B1 r := by
  intro r hr
  rcases List.mem_or_eq_of_mem_set hr with h1 | h1
  · exact h r h1
  · subst h1
    intro x hx
    rcases List.mem_append.mp hx with h2 | h2
    · exact hq x (List.mem_of_mem_take h2)
    · exact B1.getD h q.1 x (List.mem_of_mem_drop h2)
set_option maxRecDepth 3000 in
theorem lays_b : ∀ (Q : List (Nat × List Nat)) (L : List (List Nat)), (∀ r ∈ L, B1 r) → (∀ q ∈ Q, B1 q.2) → ∀ r ∈ lays L Q, B1 r
  | [], L, h, _ => h
  | q :: Q, L, h, hq => by
    refine lays_b Q (L.set q.1 q.2) (fun r hr => ?_) (fun q' hq' => hq q' (List.mem_cons_of_mem _ hq'))
    rcases List.mem_or_eq_of_mem_set hr with h1 | h1
    · exact h r h1
    · rw [h1]; exact hq q (List.mem_cons_self ..)
set_option maxRecDepth 3000 in
theorem laysBy_b (c : Nat → Nat) {Q : List (Nat × List Nat)} {L : List (List Nat)} (h : ∀ r ∈ L, B1 r) (hq : ∀ q ∈ Q, B1 q.2) : ∀ k, ∀ r ∈ laysBy c Q L k, B1 r
  | 0 => h
  | k + 1 => layN_b _ (laysBy_b c h hq k) (by
      rw [List.getD_eq_getElem?_getD]
      cases e : Q[k]? with
      | none => exact fun x hx => by simp at hx
      | some q => exact hq q (List.mem_of_getElem? e))
set_option maxRecDepth 3000 in
theorem SBw.sb {s : DS} (h : SBw s) (n : Nat) : SB s n := fun i _ => B1.getD (lays_b s.Q s.L h.L h.Q) i
set_option maxRecDepth 3000 in
theorem SBw.new (n : Nat) : SBw (newS n) := ⟨fun r hr x hx => by
  rw [List.eq_of_mem_replicate hr] at hx
  rw [List.eq_of_mem_replicate hx]; decide, fun q hq => by simp [newS] at hq⟩
set_option maxRecDepth 3000 in
theorem SBw.step {s : DS} (h : SBw s) : SBw (stepS s).1 := ⟨by rw [stepS_L]; exact h.L, by rw [stepS_Q]; exact h.Q⟩
set_option maxRecDepth 3000 in
theorem SBw.write {s : DS} (h : SBw s) (i : Int) {b : List Nat} (hb : B1 b) : SBw (writeS s i b).1 := by
  unfold writeS
  split
  · exact h
  · split
    · refine ⟨h.step.L, fun q hq => ?_⟩
      rcases List.mem_append.mp hq with h1 | h1
      · exact h.Q q h1
      · rw [List.mem_singleton] at h1; rw [h1]; exact hb
    · exact h.step
set_option maxRecDepth 3000 in
theorem SBw.flush {s : DS} (h : SBw s) : SBw (flushS s).1 := by
  unfold flushS
  split
  · exact ⟨lays_b s.Q s.L h.L h.Q, fun q hq => by simp at hq⟩
  · exact h.step
set_option maxRecDepth 3000 in
theorem SBw.fuse {s : DS} (h : SBw s) (k : Int) : SBw (fuseS s k).1 := by
  unfold fuseS
  split
  · exact h
  · split
    · exact h
    · exact ⟨h.L, h.Q⟩
set_option maxRecDepth 3000 in
theorem SBw.crash {s : DS} (h : SBw s) (ks : List Int) (torn : Int) : SBw (crashS s ks torn) := ⟨laysBy_b _ h.L h.Q _, fun q hq => by simp [crashS] at hq⟩
set_option maxRecDepth 3000 in
theorem SBw.save {s : DS} (h : SBw s) (n : Nat) (at_ : Int) (e : Nat) (hd : Hd) : SBw (saveS s n at_ e hd).1 := by
  unfold saveS
  split
  · next hk =>
    have hb : B1 (hSec e hd) := hSec_lt hk.2
    split
    · exact (h.write _ hb).flush
    · exact h.write _ hb
  · exact h
set_option maxRecDepth 3000 in
theorem sec_b {l : List Nat} (h : B1 l) : B1 (sec l) := fun x hx => by
  rcases List.mem_append.mp hx with h1 | h1
  · exact h x (List.mem_of_mem_take h1)
  · rw [List.eq_of_mem_replicate h1]; decide
set_option maxRecDepth 3000 in
theorem few_save (s : DS) (n : Nat) (at_ : Int) (e : Nat) (hd : Hd) : (saveS s n at_ e hd).1.Q.length ≤ s.Q.length + 1 := by
  unfold saveS
  split
  · split
    · exact Nat.le_trans (few_flush _) (few_write s _ _)
    · exact few_write s _ _
  · exact Nat.le_succ _

section
variable {w0 w w' : World} {d c n : Nat} {s t : DS}
set_option maxRecDepth 3000 in
theorem mix_hsave (h : Mix w0 w d c n s t) (at_ : Int) (e : Nat) (hd : Hd) (hq : s.Q.length ≤ 900000) (hn : n ≤ 4096) (hn1 : 2 ≤ n) (ht : hd.t < 18446744073709551616) (hf : hd.f < 18446744073709551616) :
    Calls Try.prog 8 #[.pointer (some ⟨d, 0, none⟩), .int .i64 at_, .int .u64 (e : Int), .agg #[.int .u64 (hd.g : Int), .int .u64 (hd.t : Int), .int .u64 (hd.f : Int)]] w fun x w' => x = .returned (.int .i64 (saveS s n at_ e hd).2) ∧ Mix w0 w' d c n (saveS s n at_ e hd).1 t := by
  obtain ⟨F, G, hdk, hr, s1, ha⟩ := h
  refine (hsave_dk d n F s at_ e hd w hdk hq hn hn1 ht hf).mono ?_
  rintro x w' ⟨rfl, F', h1, a1⟩
  exact ⟨rfl, F', G, h1, hr.far a1 s1, a1.sep s1 hr.bd, ha.trans a1.side⟩
set_option maxRecDepth 3000 in
theorem mix_rsave (h : Mix w0 w d c n s t) (at_ : Int) (e : Nat) (hd : Hd) (hq : t.Q.length ≤ 900000) (hn : n ≤ 4096) (hn1 : 1 ≤ n) (ht : hd.t < 18446744073709551616) (hf : hd.f < 18446744073709551616) :
    Calls Try.prog 9 #[.pointer (some ⟨c, 0, none⟩), .int .i64 at_, .int .u64 (e : Int), .agg #[.int .u64 (hd.g : Int), .int .u64 (hd.t : Int), .int .u64 (hd.f : Int)]] w fun x w' => x = .returned (.int .i64 (saveS t n at_ e hd).2) ∧ Mix w0 w' d c n s (saveS t n at_ e hd).1 := by
  obtain ⟨F, G, hdk, hr, s1, ha⟩ := h
  refine (rsave_dk c n G t at_ e hd w hr hq hn hn1 ht hf).mono ?_
  rintro x w' ⟨rfl, G', h1, a1⟩
  exact ⟨rfl, F, G', hdk.far a1 s1.symm, h1, (a1.sep s1.symm hdk.bd).symm, ha.trans a1.side'⟩
/-- what Load answers -/
def ldO (s : DS) (n : Nat) (at_ : Int) : Option Hd := if 0 ≤ at_ ∧ at_ + 1 < (n : Int) then curAt s at_.toNat 2 else none
def ldE (n : Nat) (at_ : Int) : Int := if 0 ≤ at_ ∧ at_ + 1 < (n : Int) then 0 else 2
set_option maxRecDepth 3000 in
theorem LoadR.eq {s : DS} {n : Nat} {at_ : Int} {x : Ending} (h : LoadR s n at_ x) : x = .returned (.tuple #[hv ((ldO s n at_).getD hZ), .bool (ldO s n at_).isSome, .int .i64 (ldE n at_)]) := by
  unfold ldO ldE
  rcases h with ⟨h1, rfl⟩ | ⟨h1, rfl⟩
  · rw [if_pos (inR2.mp h1), if_pos (inR2.mp h1)]
  · rw [if_neg (fun k => h1 (inR2.mpr k)), if_neg (fun k => h1 (inR2.mpr k))]; rfl
set_option maxRecDepth 3000 in
theorem mix_hload (h : Mix w0 w d c n s t) (at_ : Int) (hsb : SBw s) (hn : n ≤ 4096) (ha0 : -9223372036854775808 ≤ at_) (ha1 : at_ < 9223372036854775808) :
    Calls Try.prog 18 #[.pointer (some ⟨d, 0, none⟩), .int .i64 at_] w fun x w' => x = .returned (.tuple #[hv ((ldO s n at_).getD hZ), .bool (ldO s n at_).isSome, .int .i64 (ldE n at_)]) ∧ Mix w0 w' d c n s t := by
  have hm := h
  obtain ⟨F, G, hdk, hr, s1, ha⟩ := h
  refine (hload_dk d n F s at_ w hdk (hsb.sb n) hn ha0 ha1).mono ?_
  rintro x w' ⟨h1, a1⟩
  exact ⟨h1.eq, hm.far a1⟩
set_option maxRecDepth 3000 in
theorem mix_rload (h : Mix w0 w d c n s t) (at_ : Int) (hsb : SBw t) (hq : t.Q.length ≤ 1000000) (hn : n ≤ 4096) (hn1 : 1 ≤ n) :
    Calls Try.prog 19 #[.pointer (some ⟨c, 0, none⟩), .int .i64 at_] w fun x w' => x = .returned (.tuple #[hv ((ldO t n at_).getD hZ), .bool (ldO t n at_).isSome, .int .i64 (ldE n at_)]) ∧ Mix w0 w' d c n s t := by
  have hm := h
  obtain ⟨F, G, hdk, hr, s1, ha⟩ := h
  refine (rload_dk c n G t at_ w hr (hsb.sb n) hq hn hn1).mono ?_
  rintro x w' ⟨h1, a1⟩
  exact ⟨h1.eq, hm.far a1⟩
end
end Go.Proofs.Ytochmeibmjfnnaa
namespace Go.Proofs.Ytochmeibmjfnnaa
open Go.RowKit

def clampI (x a b : Int) : Int := if x < a then a else if b < x then b else x
set_option maxRecDepth 3000 in
theorem within_at (x a b : Int) (w : World) : Calls Try.prog 11 #[.int .i64 x, .int .i64 a, .int .i64 b] w fun e w' => e = .returned (.int .i64 (clampI x a b)) ∧ w = w' := by
  by_cases h1 : x < a
  · have e : clampI x a b = a := if_pos h1
    rw [e]
    clear e
    go_enter Try.func11, Try.ntmps11
    go_wp2
    go_ret
    exact ⟨rfl, rfl⟩
  · by_cases h2 : b < x
    · have e : clampI x a b = b := by rw [clampI, if_neg h1, if_pos h2]
      rw [e]
      clear e
      go_enter Try.func11, Try.ntmps11
      go_wp2
      go_ret
      exact ⟨rfl, rfl⟩
    · have e : clampI x a b = x := by rw [clampI, if_neg h1, if_neg h2]
      rw [e]
      clear e
      go_enter Try.func11, Try.ntmps11
      go_wp2
      go_ret
      exact ⟨rfl, rfl⟩

/-- both disks, and the block of the call that is carried out -/
def Mix2 (w0 w : World) (d c n : Nat) (s t : DS) (p : Nat) (C : Array Value) : Prop :=
  ∃ F G, Dk w F d n s ∧ Rk w G c n t ∧ Sep F G ∧ Adv Nul w0 (fun k => F k ∨ G k) w ∧ ¬ F p ∧ ¬ G p ∧ Blk w p 36 C
section
variable {w0 w w' : World} {d c n p : Nat} {s t : DS} {C : Array Value}
theorem Mix2.mix (h : Mix2 w0 w d c n s t p C) : Mix w0 w d c n s t := by
  obtain ⟨F, G, h1, h2, h3, h4, _⟩ := h
  exact ⟨F, G, h1, h2, h3, h4⟩
theorem Mix2.blk (h : Mix2 w0 w d c n s t p C) : Blk w p 36 C := by
  obtain ⟨F, G, _, _, _, _, _, _, h⟩ := h
  exact h
theorem Mix2.of (h : Mix w0 w d c n s t) (hB : Blk w' p 36 C) (ha : Adv Nul w Nul w') (hp : w.heap.size ≤ p) : Mix2 w0 w' d c n s t p C := by
  obtain ⟨F, G, h1, h2, s1, hb⟩ := h
  exact ⟨F, G, h1.far ha (fun _ h _ => h), h2.far ha (fun _ h _ => h), s1, hb.trans (ha.same (fun _ h => h.elim)), fun k => by have := h1.bd p k; omega, fun k => by have := h2.bd p k; omega, hB⟩
theorem Mix2.far (h : Mix2 w0 w d c n s t p C) (ha : Adv Nul w Nul w') : Mix2 w0 w' d c n s t p C := by
  obtain ⟨F, G, h1, h2, s1, hb, np, nq, hB⟩ := h
  exact ⟨F, G, h1.far ha (fun _ h _ => h), h2.far ha (fun _ h _ => h), s1, hb.trans (ha.same (fun _ h => h.elim)), np, nq, hB.keep (ha.block p hB.lt (fun x => x))⟩
theorem Mix2.prog {F F' G : Nat → Prop} {s' : DS} (hr : Rk w G c n t) (s1 : Sep F G) (ha : Adv Nul w0 (fun k => F k ∨ G k) w) (np : ¬ F p) (nq : ¬ G p) (hB : Blk w p 36 C) (h1 : Dk w' F' d n s') (a1 : Adv F w F' w') : Mix2 w0 w' d c n s' t p C :=
  ⟨F', G, h1, hr.far a1 s1, a1.sep s1 hr.bd, ha.trans a1.side, fun k => by
    rcases a1.into p k with h | h
    · exact np h
    · exact absurd hB.lt (by omega), nq, hB.keep (a1.block p hB.lt np)⟩
theorem Mix2.doc {F G G' : Nat → Prop} {t' : DS} (hd : Dk w F d n s) (s1 : Sep F G) (ha : Adv Nul w0 (fun k => F k ∨ G k) w) (np : ¬ F p) (nq : ¬ G p) (hB : Blk w p 36 C) (h1 : Rk w' G' c n t') (a1 : Adv G w G' w') : Mix2 w0 w' d c n s t' p C :=
  ⟨F, G', hd.far a1 s1.symm, h1, (a1.sep s1.symm hd.bd).symm, ha.trans a1.side', np, fun k => by
    rcases a1.into p k with h | h
    · exact nq h
    · exact absurd hB.lt (by omega), hB.keep (a1.block p hB.lt nq)⟩
theorem mix2_save (h : Mix2 w0 w d c n s t p C) (at_ : Int) (e : Nat) (hd : Hd) (hq : s.Q.length ≤ 900000) (hn : n ≤ 4096) (hn1 : 2 ≤ n) (ht : hd.t < 18446744073709551616) (hf : hd.f < 18446744073709551616) :
    Calls Try.prog 8 #[.pointer (some ⟨d, 0, none⟩), .int .i64 at_, .int .u64 (e : Int), .agg #[.int .u64 (hd.g : Int), .int .u64 (hd.t : Int), .int .u64 (hd.f : Int)]] w fun x w' => x = .returned (.int .i64 (saveS s n at_ e hd).2) ∧ Mix2 w0 w' d c n (saveS s n at_ e hd).1 t p C := by
  obtain ⟨F, G, hdk, hr, s1, ha, np, nq, hB⟩ := h
  refine (hsave_dk d n F s at_ e hd w hdk hq hn hn1 ht hf).mono ?_
  rintro x w' ⟨rfl, F', h1, a1⟩
  exact ⟨rfl, Mix2.prog hr s1 ha np nq hB h1 a1⟩
theorem mix2_rsave (h : Mix2 w0 w d c n s t p C) (at_ : Int) (e : Nat) (hd : Hd) (hq : t.Q.length ≤ 900000) (hn : n ≤ 4096) (hn1 : 1 ≤ n) (ht : hd.t < 18446744073709551616) (hf : hd.f < 18446744073709551616) :
    Calls Try.prog 9 #[.pointer (some ⟨c, 0, none⟩), .int .i64 at_, .int .u64 (e : Int), .agg #[.int .u64 (hd.g : Int), .int .u64 (hd.t : Int), .int .u64 (hd.f : Int)]] w fun x w' => x = .returned (.int .i64 (saveS t n at_ e hd).2) ∧ Mix2 w0 w' d c n s (saveS t n at_ e hd).1 p C := by
  obtain ⟨F, G, hdk, hr, s1, ha, np, nq, hB⟩ := h
  refine (rsave_dk c n G t at_ e hd w hr hq hn hn1 ht hf).mono ?_
  rintro x w' ⟨rfl, G', h1, a1⟩
  exact ⟨rfl, Mix2.doc hdk s1 ha np nq hB h1 a1⟩
theorem mix2_write {w1 : World} {B : Nat → Prop} {v : Value} {l : List Nat} (h : Mix2 w0 w d c n s t p C) (hv : Sl w1 B 5 1 v 128 (l.map u8)) (hb : Adv Nul w B w1) (i : Int) (hq : s.Q.length ≤ 1000000) :
    Calls Try.prog 10 #[.pointer (some ⟨d, 0, none⟩), .int .i64 i, v] w1 fun e w' => e = .returned (.int .i64 (writeS s i l).2) ∧ Mix2 w0 w' d c n (writeS s i l).1 t p C := by
  have h' := h.far (hb.sub (G := Nul) (fun _ x => x.elim))
  obtain ⟨F0, G0, k1, k2, s0, hc, mp, mq, kB⟩ := h
  have ha0 := hb.sub (G := Nul) (fun _ x => x.elim)
  refine (write_dk d n 128 i v F0 s l w1 (k1.far ha0 (fun _ h _ => h)) hv.rd (fun k hk hF => by
    rcases hb.into k (hv.inF k hk) with h | h
    · exact h
    · have := k1.bd k hF; omega) hq).mono ?_
  rintro e w' ⟨rfl, F', h1, a1⟩
  exact ⟨rfl, Mix2.prog (k2.far ha0 (fun _ h _ => h)) s0 (hc.trans (ha0.same (fun _ h => h.elim))) mp mq (kB.keep (hb.block p kB.lt (fun x => x))) h1 a1⟩
theorem mix2_rwrite {w1 : World} {B : Nat → Prop} {v : Value} {l : List Nat} (h : Mix2 w0 w d c n s t p C) (hv : Sl w1 B 5 1 v 128 (l.map u8)) (hb : Adv Nul w B w1) (i : Int) (hq : t.Q.length ≤ 1000000) :
    Calls Try.prog 13 #[.pointer (some ⟨c, 0, none⟩), .int .i64 i, v] w1 fun e w' => e = .returned (.int .i64 (writeS t i l).2) ∧ Mix2 w0 w' d c n s (writeS t i l).1 p C := by
  obtain ⟨F0, G0, k1, k2, s0, hc, mp, mq, kB⟩ := h
  have ha0 := hb.sub (G := Nul) (fun _ x => x.elim)
  refine (rwrite_dk c n 128 i v G0 t l w1 (k2.far ha0 (fun _ h _ => h)) hv.rd (fun k hk hF => by
    rcases hb.into k (hv.inF k hk) with h | h
    · exact h
    · have := k2.bd k hF; omega) hq).mono ?_
  rintro e w' ⟨rfl, G', h1, a1⟩
  exact ⟨rfl, Mix2.doc (k1.far ha0 (fun _ h _ => h)) s0 (hc.trans (ha0.same (fun _ h => h.elim))) mp mq (kB.keep (hb.block p kB.lt (fun x => x))) h1 a1⟩
theorem mix2_fuse (h : Mix2 w0 w d c n s t p C) (k : Int) (hk : k < 9223372036854775808) :
    Calls Try.prog 14 #[.pointer (some ⟨d, 0, none⟩), .int .i64 k] w fun e w' => e = .returned (.int .i64 (fuseS s k).2) ∧ Mix2 w0 w' d c n (fuseS s k).1 t p C := by
  obtain ⟨F, G, hd, hr, s1, ha, np, nq, hB⟩ := h
  refine (fuse_r d n F s k w hd hk).mono ?_
  rintro e w' ⟨rfl, h1, a1⟩
  exact ⟨rfl, Mix2.prog hr s1 ha np nq hB h1 a1⟩
theorem mix2_rarm (h : Mix2 w0 w d c n s t p C) (k : Int) (hk : k < 9223372036854775808) :
    Calls Try.prog 15 #[.pointer (some ⟨c, 0, none⟩), .int .i64 k] w fun e w' => e = .returned (.int .i64 (fuseS t k).2) ∧ Mix2 w0 w' d c n s (fuseS t k).1 p C := by
  obtain ⟨F, G, hd, hr, s1, ha, np, nq, hB⟩ := h
  refine (rarm_dk c n G t k w hr hk).mono ?_
  rintro e w' ⟨rfl, h1, a1⟩
  exact ⟨rfl, Mix2.doc hd s1 ha np nq hB h1 a1⟩
theorem mix2_crash (h : Mix2 w0 w d c n s t p C) {m : Nat} {vk : Value} {ks : List Int} (torn : Int) (hk : Rd w0 1 vk m (ks.map (Value.int .i64))) (ho : ∀ b, vk.ownBlock = some b → 0 < m → b < w0.heap.size) :
    Calls Try.prog 16 #[.pointer (some ⟨d, 0, none⟩), vk, .int .i64 torn] w fun e w' => e = .returned (.tuple #[]) ∧ Mix2 w0 w' d c n (crashS s ks torn) t p C := by
  obtain ⟨F, G, hd, hr, s1, ha, np, nq, hB⟩ := h
  refine (crash_dk d n m vk F s ks torn w hd (hk.below ha.toBelow (fun k h1 h2 _ => ho k h1 h2)) (fun k h1 h2 hF => by have := ho k h1 h2; have := ha.new_at (.inl hF); omega)).mono ?_
  rintro e w' ⟨rfl, h1, a1⟩
  exact ⟨rfl, Mix2.prog hr s1 ha np nq hB h1 a1⟩
theorem mix2_rcrash (h : Mix2 w0 w d c n s t p C) {m : Nat} {vk : Value} {ks : List Int} (torn : Int) (hk : Rd w0 1 vk m (ks.map (Value.int .i64))) (ho : ∀ b, vk.ownBlock = some b → 0 < m → b < w0.heap.size) (hn : 0 < n) (hq : t.Q.length ≤ 1000000) :
    Calls Try.prog 17 #[.pointer (some ⟨c, 0, none⟩), vk, .int .i64 torn] w fun e w' => e = .returned (.tuple #[]) ∧ Mix2 w0 w' d c n s (crashS t ks torn) p C := by
  obtain ⟨F, G, hd, hr, s1, ha, np, nq, hB⟩ := h
  refine (rcrash_dk c n m vk G t ks torn w hr hn (hk.below ha.toBelow (fun k h1 h2 _ => ho k h1 h2)) (fun k h1 h2 hF => by have := ho k h1 h2; have := ha.new_at (.inr hF); omega) hq).mono ?_
  rintro e w' ⟨rfl, G', h1, a1⟩
  exact ⟨rfl, Mix2.doc hd s1 ha np nq hB h1 a1⟩
end

/-- what the last line tries -/
def HL1 : Hd := ⟨1, 7, 2⟩
theorem HL1_ok : hOk 1 HL1 := by decide
theorem lives_state : saveS (newS 2) 2 0 1 HL1 = (⟨lays (newS 2).L [(1, hSec 1 HL1)], [], false, none⟩, 0) := by
  have hl := hSec_length HL1_ok
  have e1 : writeS (newS 2) ((0 : Int) + ((HL1.g % 2 : Nat) : Int)) (hSec 1 HL1) = (⟨(newS 2).L, [(1, hSec 1 HL1)], false, none⟩, 0) := by
    have h0 : ¬ ((0 : Int) + ((HL1.g % 2 : Nat) : Int) < 0 ∨ (((newS 2).L.length : Nat) : Int) ≤ (0 : Int) + ((HL1.g % 2 : Nat) : Int) ∨ (hSec 1 HL1).length ≠ 128) := by
      rw [hl]; decide
    unfold writeS
    rw [if_neg h0]
    rfl
  unfold saveS
  rw [if_pos ⟨by decide, HL1_ok⟩, e1]
  rfl
theorem lives_load : ldO (saveS (newS 2) 2 0 1 HL1).1 2 0 = some HL1 := by
  rw [lives_state]
  have e0 : isS ⟨lays (newS 2).L [(1, hSec 1 HL1)], [], false, none⟩ 0 = List.replicate 128 0 := rfl
  have e1 : isS ⟨lays (newS 2).L [(1, hSec 1 HL1)], [], false, none⟩ 1 = hSec 1 HL1 := rfl
  have u0 : unHd (List.replicate 128 0) = none := if_neg (fun h => absurd h.2.1 (by decide))
  unfold ldO
  rw [if_pos (by decide), show (0 : Int).toNat = 0 from rfl, curAt2, e0, e1, unO_none u0, unO_yes (odd := 1) (unHd_hSec HL1_ok) rfl, nx_none]
set_option maxRecDepth 3000 in
theorem hlives_any (w : World) : Calls Try.prog 20 #[] w fun e w' => e = .returned (.bool true) ∧ Adv Nul w Nul w' := by
  have HN := Lib.hid (new_r 2 (by decide) (by decide) w)
  have hs := fun (F : Nat → Prop) (d : Nat) (w1 : World) (h : Dk w1 F d 2 (newS 2)) => hsave_dk d 2 F (newS 2) 0 1 HL1 w1 h (by simp [newS]) (by decide) (by decide) (by decide) (by decide)
  have e2 : (saveS (newS 2) 2 0 1 HL1).2 = 0 := by rw [lives_state]
  have hl := fun (F : Nat → Prop) (d : Nat) (w1 : World) (h : Dk w1 F d 2 (saveS (newS 2) 2 0 1 HL1).1) => hload_dk d 2 F _ 0 w1 h (((SBw.new 2).save 2 0 1 HL1).sb 2) (by decide) (by decide) (by decide)
  obtain ⟨s1, hs1⟩ : ∃ s1, s1 = saveS (newS 2) 2 0 1 HL1 := ⟨_, rfl⟩
  have hld := lives_load
  unfold PSaved at hs
  rw [← hs1] at hs e2 hl hld
  have HS := Lib.hid hs
  have HE2 := Lib.hid e2
  have HL := Lib.hid hl
  have HLD := Lib.hid hld
  clear hs e2 hl hs1 hld
  go_enter Try.func20, Try.ntmps20
  go_wp2_with fail
  refine HN.out.mono ?_
  rintro e w1 ⟨d, F, rfl, h1, a1⟩
  have H1 := Lib.hid h1
  have A1 := Lib.hid a1
  clear h1 a1
  go_wp2_with fail
  refine (HS.out F d w1 H1.out).mono ?_
  rintro x w2 ⟨rfl, F2, k2, a2⟩
  rw [HE2.out]
  have H2 := Lib.hid k2
  have A2 := Lib.hid (A1.out.trans a2)
  clear k2 a2
  go_wp2_with fail
  refine (HL.out F2 d w2 H2.out).mono ?_
  rintro x w3 ⟨hr, a3⟩
  have hx := hr.eq
  rw [HLD.out] at hx
  obtain rfl : x = .returned (.tuple #[.agg #[.int .u64 1, .int .u64 7, .int .u64 2], .bool true, .int .i64 0]) := by rw [hx]; rfl
  have A3 := Lib.hid (A2.out.over a3)
  clear hr hx a3
  go_wp2_with fail
  go_ret
  exact ⟨rfl, (A3.out.sub (fun _ x => x.elim)).alloc _⟩
end Go.Proofs.Ytochmeibmjfnnaa
