/- The document's Checkpoint. -/
import Derived.Test.YtbdjlmdbnoghnaaGreatMh29
import Derived.Test.YtbdjlmdbnoghnaaGreatMh31
import Derived.Test.YtbdjlmdbnoghnaaGreatMh33
namespace Go.Proofs.YtbdjlmdbnoghnaaGreat
open Go.RowKit Go.Maps

variable {Z : Nat → Prop}

theorem sync_err (s : DS) (g : LS) : (syncG s g).1.2.err = (syncG s g).2 := by
  unfold syncG
  split <;> simp
theorem check_sync {s : DS} {n N : Nat} {g : LS} (h : (syncG s g).2 ≠ 0) : checkG s n N g = syncG s g := by
  unfold syncG at h ⊢
  unfold checkG
  by_cases h0 : g.err = 0
  · rw [if_pos h0] at h ⊢
    rw [if_pos h0]
    have hb : bringS s n (N - 2 - n) g.A = flushS s := if_neg h
    rw [hb, if_neg h]
  · rw [if_neg h0, if_neg h0]
theorem sync_zero {s : DS} {g : LS} (h : (syncG s g).2 = 0) : g.err = 0 ∧ (flushS s).2 = 0 ∧ (syncG s g).1 = ((flushS s).1, g) := by
  unfold syncG at h ⊢
  by_cases h0 : g.err = 0
  · rw [if_pos h0] at h ⊢
    have h1 : (flushS s).2 = 0 := h
    exact ⟨h0, h1, by rw [LS.err_eta (h0.trans h1.symm)]⟩
  · rw [if_neg h0] at h
    exact absurd h h0
/-- the homes from k on that are not home -/
def awK (A : Nat → Option (List Nat)) (M k : Nat) : List (Nat × List Nat) := (((List.range M).drop k).filter (fun i => (A i).isSome)).map (fun i => (i, (A i).getD (List.replicate 128 0)))
theorem awK_zero (A : Nat → Option (List Nat)) (M : Nat) : awK A M 0 = awayL A M := rfl
theorem range_drop {M k : Nat} (h : k < M) : (List.range M).drop k = k :: (List.range M).drop (k + 1) := by
  have h2 : k < (List.range M).length := by simpa using h
  have h3 := (List.getElem_cons_drop h2).symm
  rwa [List.getElem_range] at h3
theorem awK_none {A : Nat → Option (List Nat)} {M k : Nat} (h : k < M) (ha : A k = none) : awK A M k = awK A M (k + 1) := by
  unfold awK
  rw [range_drop h, List.filter_cons, if_neg (by simp [ha])]
theorem awK_some {A : Nat → Option (List Nat)} {M k : Nat} {l : List Nat} (h : k < M) (ha : A k = some l) : awK A M k = (k, l) :: awK A M (k + 1) := by
  unfold awK
  rw [range_drop h, List.filter_cons, if_pos (by simp [ha]), List.map_cons, ha]
  rfl
theorem awK_end (A : Nat → Option (List Nat)) (M : Nat) : awK A M M = [] := by
  unfold awK
  rw [List.drop_eq_nil_of_le (by simp)]
  rfl
/-- behind the first flush -/
theorem check_put {s : DS} {n N : Nat} {g : LS} (h0 : g.err = 0) (h1 : (flushS s).2 = 0) : checkG s n N g =
    if (putHomes (flushS s).1 n (awayL g.A (N - 2 - n))).2 = 0 then
      (if (flushS (putHomes (flushS s).1 n (awayL g.A (N - 2 - n))).1).2 = 0 then
        (if (saveG (flushS (putHomes (flushS s).1 n (awayL g.A (N - 2 - n))).1).1 N g.ep (hNew g)).2 = 0 then (((saveG (flushS (putHomes (flushS s).1 n (awayL g.A (N - 2 - n))).1).1 N g.ep (hNew g)).1, { g with h := hNew g, A := fun _ => none }), 0)
        else (((saveG (flushS (putHomes (flushS s).1 n (awayL g.A (N - 2 - n))).1).1 N g.ep (hNew g)).1, { g with err := (saveG (flushS (putHomes (flushS s).1 n (awayL g.A (N - 2 - n))).1).1 N g.ep (hNew g)).2 }), (saveG (flushS (putHomes (flushS s).1 n (awayL g.A (N - 2 - n))).1).1 N g.ep (hNew g)).2))
      else (((flushS (putHomes (flushS s).1 n (awayL g.A (N - 2 - n))).1).1, { g with err := (flushS (putHomes (flushS s).1 n (awayL g.A (N - 2 - n))).1).2 }), (flushS (putHomes (flushS s).1 n (awayL g.A (N - 2 - n))).1).2))
    else (((putHomes (flushS s).1 n (awayL g.A (N - 2 - n))).1, { g with err := (putHomes (flushS s).1 n (awayL g.A (N - 2 - n))).2 }), (putHomes (flushS s).1 n (awayL g.A (N - 2 - n))).2) := by
  unfold checkG bringS
  rw [if_pos h0, if_pos h1]
  by_cases h2 : (putHomes (flushS s).1 n (awayL g.A (N - 2 - n))).2 = 0
  · rw [if_pos h2, if_pos h2]
  · rw [if_neg h2, if_neg h2, if_neg h2]
def YhC (w : World) (y x n b M k : Nat) (A : Option Addr) (q : Nat) : Prop := w.cell? ⟨y, 0, none⟩ = some (.pointer (some ⟨x, 0, none⟩)) ∧ w.cell? ⟨y, 1, none⟩ = some (.int .i64 (n : Int)) ∧ w.cell? ⟨y, 6, none⟩ = some (.slice (some ⟨b, 0, none⟩) M M) ∧ w.cell? ⟨b, k, none⟩ = some (.slice A 128 q)
theorem infoHomes : (Tryz.prog.info? 53).map (fun i => (i.zero, i.size, i.bytes)) = some (some (.slice none 0 0), 1, 24) := by kernel_rfl
theorem made_homes (n : Nat) (hn : n ≤ 4096) (w : World) : (Instr.makeSlice 50 (.int .i64 (n : Int)) (.int .i64 (n : Int))).run Tryz.prog w = .ok (.slice (some ⟨w.heap.size, 0, none⟩) n n) (w.alloc (.cells (madeCells #[.slice none 0 0] (n * 1)) 53)) := by
  obtain ⟨ie, hie, hz, hs, hb⟩ := info_parts infoHomes
  have h := run_make (P := Tryz.prog) w 50 53 ie _ Tryz.underlying50 hie hz .i64 .i64 n n (by omega) (Int.le_refl _) (by rw [hb]; omega) (by omega)
  simpa [hs, Value.cells] using h
theorem made_nil {n i : Nat} (h : i < n) : (madeCells #[Value.slice none 0 0] (n * 1))[i]? = some (.slice none 0 0) := by
  have e := made_one (.slice none 0 0) rfl n
  have e2 : (madeCells #[Value.slice none 0 0] (n * 1)).toList = List.replicate n (.slice none 0 0) := e
  rw [← Array.getElem?_toList, e2, List.getElem?_replicate, if_pos h]
/-- the homes anew -/
theorem Ys.fresh {w : World} {G : Nat → Prop} {x y b n N b' : Nat} {s : DS} {g : LS} (h : Ys Z w G x y b n N s g) (hb : b' = w.heap.size) :
    Ys Z ((w.alloc (.cells (madeCells #[.slice none 0 0] ((N - 2 - n) * 1)) 53)).setCell ⟨y, 6, none⟩ (.slice (some ⟨b', 0, none⟩) (N - 2 - n) (N - 2 - n))) G x y b' n N s { g with A := fun _ => none } ∧
    Adv (YF G y b) w (YF G y b') ((w.alloc (.cells (madeCells #[.slice none 0 0] ((N - 2 - n) * 1)) 53)).setCell ⟨y, 6, none⟩ (.slice (some ⟨b', 0, none⟩) (N - 2 - n) (N - 2 - n))) := by
  obtain ⟨V, hV⟩ : ∃ V, V = w.alloc (.cells (madeCells #[.slice none 0 0] ((N - 2 - n) * 1)) 53) := ⟨_, rfl⟩
  rw [← hV]
  have haV : Adv Nul w Nul V := by rw [hV]; exact (Adv.refl _ _).alloc _
  have hbV : Blk V b' 53 (madeCells #[.slice none 0 0] ((N - 2 - n) * 1)) := by rw [hV, hb]; exact Blk.new _ _ _
  have hy := h.lg.blk.keep (haV.block y h.lg.blk.lt (fun e => e))
  have hne : b' ≠ y := by have := h.lg.blk.lt; omega
  have hs : Adv (fun k => k = y) V (fun k => k = y) (V.setCell ⟨y, 6, none⟩ (.slice (some ⟨b', 0, none⟩) (N - 2 - n) (N - 2 - n))) := (Adv.refl (fun k => k = y) V).setCell (p := ⟨y, 6, none⟩) (.inl rfl) _
  have hb2 := hbV.far (p := ⟨y, 6, none⟩) hne (.slice (some ⟨b', 0, none⟩) (N - 2 - n) (N - 2 - n))
  refine ⟨⟨(h.dk.far haV (fun _ e _ => e)).far hs (fun k e f => h.sep k f (.inl e)), ⟨hy.set_ 6 _, ⟨_, hb2, by simp [madeCells]⟩, fun i hi => ⟨.slice none 0 0, ?_, rfl⟩, AOk.none _⟩, ?_, fun k e => Nat.lt_of_lt_of_le (h.zb k e) (Nat.le_trans haV.size hs.size)⟩, ?_⟩
  · rw [hb2.cell]
    exact made_nil hi
  · rintro k e (f | f)
    · exact h.sep k e (.inl f)
    · have := h.dk.bd k e; omega
  · refine ⟨hs.os.trans haV.os, hs.tape.trans haV.tape, hs.output.trans haV.output, Nat.le_trans haV.size hs.size, fun k hk hn => ?_, ?_⟩
    · rw [hs.block k (Nat.lt_of_lt_of_le hk haV.size) (fun e => hn (.inr (.inl e)))]
      exact haV.block k hk (fun e => e)
    · rintro k (e | e | e)
      · exact .inl (.inl e)
      · exact .inl (.inr (.inl e))
      · exact .inr (by omega)
def YsC (w : World) (y x ep gg nx : Nat) : Prop := w.cell? ⟨y, 0, none⟩ = some (.pointer (some ⟨x, 0, none⟩)) ∧ w.cell? ⟨y, 2, none⟩ = some (.int .u64 (ep : Int)) ∧ w.cell? ⟨y, 3, none⟩ = some (.int .u64 (gg : Int)) ∧ w.cell? ⟨y, 5, none⟩ = some (.int .u64 (nx : Int))
def YhL (Z : Nat → Prop) (W : World) (G0 : Nat → Prop) (x y b n N : Nat) (s0 : DS) (g : LS) (t : Value) (wr : World) : Prop :=
  ∃ (k : Nat) (sk : DS) (Gk : Nat → Prop) (e : Int), k ≤ N - 2 - n ∧ t = .int .i64 (k : Int) ∧ sk.Q.length ≤ s0.Q.length + k ∧ Ys Z wr Gk x y b n N sk { g with err := e } ∧ Adv (YF G0 y b) W (YF Gk y b) wr ∧ ((e = 0 ∧ putHomes s0 n (awayL g.A (N - 2 - n)) = putHomes sk n (awK g.A (N - 2 - n) k)) ∨ (e ≠ 0 ∧ putHomes s0 n (awayL g.A (N - 2 - n)) = (sk, e)))

set_option maxRecDepth 4000 in
set_option maxHeartbeats 12800000 in
theorem ycheck_lg (x y b n N : Nat) (g : LS) (G : Nat → Prop) (s : DS) (w : World) (h : Ys Z w G x y b n N s g) (hn : 2 ≤ n ∧ n + 3 ≤ N ∧ N ≤ 4096) (hq : s.Q.length ≤ 800000) (hg : g.h.g < 1099511627775) (hnx : g.next < 18446744073709551616) (hep : g.ep < 18446744073709551616) :
    Calls Tryz.prog 15 #[.pointer (some ⟨y, 0, none⟩)] w (YrR Z w G x y b n N (checkG s n N g)) := by
  obtain ⟨R, hR⟩ : ∃ R, R = checkG s n N g := ⟨_, rfl⟩
  rw [← hR]
  have HR := Lib.hid hR
  have HSY := Lib.hid (ysync_lg x y b n N g G s w h (by omega) (by omega))
  obtain ⟨SY, hSY⟩ : ∃ S, S = syncG s g := ⟨_, rfl⟩
  rw [← hSY] at HSY
  have HSYE := Lib.hid hSY
  have HN := Lib.hid hn
  have HQ := Lib.hid hq
  have HG := Lib.hid hg
  have HNX := Lib.hid hnx
  have HEP := Lib.hid hep
  obtain ⟨SE, hSE⟩ : ∃ e, e = SY.2 := ⟨_, rfl⟩
  have HSE := Lib.hid hSE
  clear h hn hq hg hnx hep hR hSY
  go_enter Tryz.func15, Tryz.ntmps15
  go_wp2_with fail
  refine HSY.out.mono ?_
  rintro e w1 ⟨rfl, G1, b1, y1, a1⟩
  rw [← hSE]
  clear hSE
  have c7 := y1.lg.cells.2.2.2.2.2.2.2
  rw [show SY.1.2.err = SE by rw [HSE.out, HSYE.out, sync_err]] at c7
  by_cases h0 : SE = 0
  rotate_left
  · have hb : ((SE : Int) != 0) = true := by rw [bne_iff_ne]; exact h0
    have hb2 : ((SE : Int) == 0) = false := by rw [beq_eq_false_iff_ne]; exact h0
    have HF := Lib.hid (show YrR Z w G x y b n N R (.returned (.int .i64 SE)) w1 by
      rw [HR.out, check_sync (by rw [← HSYE.out, ← HSE.out]; exact h0), ← HSYE.out, HSE.out]
      exact ⟨rfl, G1, b1, y1, a1⟩)
    clear y1 a1 h0
    go_wp2_with fail
    go_ret
    exact HF.out
  subst h0
  obtain ⟨hg0, hf0, hs1⟩ := sync_zero (s := s) (g := g) (by rw [← HSYE.out]; exact HSE.out.symm)
  rw [HSYE.out, hs1] at y1
  simp only at y1
  obtain ⟨s1, hs1'⟩ : ∃ x, x = (flushS s).1 := ⟨_, rfl⟩
  rw [← hs1'] at y1
  have HCP := Lib.hid (check_put (n := n) (N := N) hg0 hf0)
  rw [← hs1'] at HCP
  have HQ1 := Lib.hid (show s1.Q.length ≤ 800000 by rw [hs1']; have := HQ.out; have := few_flush s; omega)
  have HG0 := Lib.hid hg0
  have HY1 := Lib.hid y1
  have HA1 := Lib.hid a1
  obtain ⟨gg, hgg⟩ : ∃ x, x = g.h.g := ⟨_, rfl⟩
  have c3 := y1.lg.cells.2.2.2.1
  rw [← hgg] at c3
  have hgf : ((1099511627775 : Int) ≤ (gg : Int)) = False := eq_false (by rw [hgg]; have := HG.out; omega)
  have HGG := Lib.hid hgg
  have HY0 := Lib.hid (show Ys Z w1 G1 x y b1 n N s1 { g with err := 0 } by rw [LS.err_eta hg0]; exact y1)
  clear y1 a1 hg0 hf0 hs1 hs1' hgg c7
  go_wp2_with fail
  obtain ⟨M, hM⟩ : ∃ M, M = N - 2 - n := ⟨_, rfl⟩
  have HM := Lib.hid hM
  have hMI : (M : Int) ≤ 4096 := by have := HN.out; omega
  have hnI : (n : Int) ≤ 4096 := by have := HN.out; omega
  clear c3 hgf hM
  go_loopw [3] (YhL Z w1 G1 x y b1 n N s1 g) (fun t _ => M - (intOf t).toNat)
  case atStart => exact ⟨0, s1, G1, 0, Nat.zero_le _, rfl, Nat.le_refl _, HY0.out, Adv.refl _ _, .inl ⟨rfl, by rw [awK_zero]⟩⟩
  case round =>
    obtain ⟨k, sk, Gk, e, hk, rfl, hqk, hys, had, hcase⟩ := hrel
    obtain ⟨c0, c1, -, -, -, -, c6, c7⟩ := hys.lg.cells
    have c7' : wr.cell? ⟨y, 7, none⟩ = some (.int .i64 e) := c7
    rw [← HM.out] at c6 hk
    have hki0 : (k : Int) ≤ (M : Int) := by omega
    by_cases he : e = 0
    · subst he
      have hlay : putHomes s1 n (awayL g.A (N - 2 - n)) = putHomes sk n (awK g.A (N - 2 - n) k) := by
        rcases hcase with h | h
        · exact h.2
        · exact absurd rfl h.1
      by_cases hlt : k < M
      · have hki : (k : Int) < (M : Int) := by omega
        obtain ⟨v, hv, hvc⟩ := hys.lg.at_ k (by rw [← HM.out]; exact hlt)
        have hvc' : HCell wr (YK Z Gk y b1) (g.A k) v := hvc
        cases hA : g.A k with
        | none =>
          rw [hA] at hvc'
          have hv0 : v = .slice none 0 0 := hvc'
          subst hv0
          have HNEXT := Lib.hid (show YhL Z w1 G1 x y b1 n N s1 g (.int .i64 ((k : Int) + 1)) wr from ⟨k + 1, sk, Gk, 0, by rw [← HM.out]; omega, by simp, by omega, hys, had, .inl ⟨rfl, by rw [hlay, awK_none (by rw [← HM.out]; exact hlt) hA]⟩⟩)
          have HLT := Lib.hid hlt
          clear hk hqk hys had hcase hlay hlt hvc hvc' hA c7
          go_wp2_with fail
          have hlt := HLT.out
          exact ⟨HNEXT.out, by simp [intOf] <;> omega⟩
        | some l =>
          rw [hA] at hvc'
          obtain ⟨hl, A5, q5, rfl, hr5, hn5⟩ := hvc'
          obtain ⟨Wr, hWr⟩ : ∃ z, z = writeS sk ((2 + n + k : Nat) : Int) l := ⟨_, rfl⟩
          have hlay2 : putHomes s1 n (awayL g.A (N - 2 - n)) = if Wr.2 = 0 then putHomes Wr.1 n (awK g.A (N - 2 - n) (k + 1)) else Wr := by rw [hlay, awK_some (by rw [← HM.out]; exact hlt) hA, hWr]; rfl
          have hqw : Wr.1.Q.length ≤ s1.Q.length + (k + 1) := by rw [hWr]; exact Nat.le_trans (few_write sk _ _) (by omega)
          obtain ⟨WE, hWE⟩ : ∃ z, z = Wr.2 := ⟨_, rfl⟩
          obtain ⟨PL, hPL⟩ : ∃ z : Int, z = (2 : Int) + (n : Int) + (k : Int) := ⟨_, rfl⟩
          have hw1 : IntKind.i64.wrap ((2 : Int) + (n : Int)) = (2 : Int) + (n : Int) := by rw [IntKind.wrap_i64]; omega
          have hw2 : IntKind.i64.wrap ((2 : Int) + (n : Int) + (k : Int)) = PL := by rw [IntKind.wrap_i64]; omega
          have hk6 : Calls Tryz.prog 52 #[.pointer (some ⟨x, 0, none⟩), .int .i64 PL, .slice A5 128 q5] wr.drew fun e w' => e = .returned (.int .i64 WE) ∧ ∃ G', Rk w' G' x N Wr.1 ∧ Adv Gk wr.drew G' w' := by
            have := rwrite_dk x N 128 ((2 + n + k : Nat) : Int) (.slice A5 128 q5) Gk sk l wr.drew (hys.dk.drewN 1) (hr5.drewN 1) (fun j hj hf => hn5 j hj (.inl (.inl hf))) (by have := HQ1.out; omega)
            rw [← hWr, ← hWE] at this
            rw [show ((2 + n + k : Nat) : Int) = PL by omega] at this
            exact this
          have HWR := Lib.hid hk6
          have HYS := Lib.hid hys
          have HAD := Lib.hid had
          have HVB := Lib.hid hv
          have HWE := Lib.hid hWE
          have HLAY2 := Lib.hid hlay2
          have HQW := Lib.hid hqw
          have HLT := Lib.hid hlt
          have K0 := Lib.hid (show YhC wr y x n b1 M k A5 q5 from ⟨c0, c1, c6, hv⟩)
          have K1 := Lib.hid (show YhC wr.drew y x n b1 M k A5 q5 from K0.out)
          have HFR := Lib.hid (show ∀ (G9 : Nat → Prop) (w9 : World), Rk w9 G9 x N Wr.1 → Adv Gk wr.drew G9 w9 → Ys Z w9 G9 x y b1 n N Wr.1 { g with err := 0 } ∧ YhC w9 y x n b1 M k A5 q5 ∧ w9.cell? ⟨y, 7, none⟩ = some (.int .i64 0) ∧ w9.frozen? ⟨y, 7, none⟩ = false ∧ ∀ u, YhC (w9.setCell ⟨y, 7, none⟩ u) y x n b1 M k A5 q5 from fun G9 w9 k9 a9 => by
            have h9 := HYS.out.disk (Adv.of_drew a9) k9
            obtain ⟨C, hC, -⟩ := HYS.out.lg.hb
            have hc : w9.cell? ⟨b1, k, none⟩ = some (.slice A5 128 q5) := (show w9.cell? ⟨b1, k, none⟩ = wr.cell? ⟨b1, k, none⟩ from World.cell?_of_block ((Adv.of_drew a9).block b1 hC.lt (fun e => HYS.out.sep b1 e (.inr rfl)))).trans HVB.out
            have h6 : w9.cell? ⟨y, 6, none⟩ = some (.slice (some ⟨b1, 0, none⟩) M M) := by rw [HM.out]; exact h9.lg.cells.2.2.2.2.2.2.1
            refine ⟨h9, ⟨h9.lg.cells.1, h9.lg.cells.2.1, h6, hc⟩, h9.lg.cells.2.2.2.2.2.2.2, h9.lg.blk.frozen 7, fun u => ?_⟩
            have hB := h9.lg.blk.set_ 7 u
            refine ⟨(hB.cell 0).trans rfl, (hB.cell 1).trans rfl, (hB.cell 6).trans (by rw [HM.out]; rfl), ?_⟩
            exact (show (w9.setCell ⟨y, 7, none⟩ u).cell? ⟨b1, k, none⟩ = w9.cell? ⟨b1, k, none⟩ from World.cell?_of_block (heap_setCell_other w9 _ b1 _ h9.lg.ne)).trans hc)
          clear hk hqk hys had hcase hlay hlt hvc hA c7 hr5 hn5 hl hWr hlay2 hqw hWE hPL hk6
          go_upto_region 10 with (fail)
          obtain ⟨d0, d1, d6, d8⟩ := K0.out
          refine rstart (S := (fun w' => YhC w' y x n b1 M k A5 q5)) (by first | with_reducible exact K9s.out | with_reducible exact K9.out | with_reducible exact K1.out | with_reducible exact K0.out) (fun hH => ?_)
          refine tk (i := 0) (oi := ⟨some 44, .move (.tmp 0), 34, "ref.go:193", #[], none⟩) hH.out (by rintro w ⟨s0, s1, s2, s3⟩; go_simp <;> with_reducible rfl) ?_
          simp only [Act.put, sA, sB, sC]
          refine tk (i := 1) (oi := ⟨some 45, .move (.tmp 0), 34, "ref.go:193", #[], none⟩) hH.out (by rintro w ⟨s0, s1, s2, s3⟩; go_simp <;> with_reducible rfl) ?_
          simp only [Act.put, sA, sB, sC]
          refine tk (i := 2) (oi := ⟨some 46, .nilCheck (.tmp 45), 0, "ref.go:193", #[⟨1, .data⟩], none⟩) hH.out (by rintro w ⟨s0, s1, s2, s3⟩; go_simp <;> with_reducible rfl) ?_
          simp only [Act.put, sA, sB, sC]
          refine tk (i := 3) (oi := ⟨some 47, .fieldAddr 52 (.tmp 46) 0, 0, "ref.go:193", #[⟨2, .data⟩], none⟩) hH.out (by rintro w ⟨s0, s1, s2, s3⟩; go_simp <;> with_reducible rfl) ?_
          simp only [Act.put, sA, sB, sC]
          refine tk (i := 4) (oi := ⟨some 48, .load 28 (.tmp 47), 28, "ref.go:193", #[⟨3, .data⟩], none⟩) hH.out (by rintro w ⟨s0, s1, s2, s3⟩; go_simp <;> with_reducible rfl) ?_
          simp only [Act.put, sA, sB, sC]
          refine tk (i := 5) (oi := ⟨some 49, .move (.tmp 0), 34, "ref.go:193", #[], none⟩) hH.out (by rintro w ⟨s0, s1, s2, s3⟩; go_simp <;> with_reducible rfl) ?_
          simp only [Act.put, sA, sB, sC]
          refine tk (i := 6) (oi := ⟨some 50, .nilCheck (.tmp 49), 0, "ref.go:193", #[⟨5, .data⟩], none⟩) hH.out (by rintro w ⟨s0, s1, s2, s3⟩; go_simp <;> with_reducible rfl) ?_
          simp only [Act.put, sA, sB, sC]
          refine tk (i := 7) (oi := ⟨some 51, .fieldAddr 52 (.tmp 50) 1, 0, "ref.go:193", #[⟨6, .data⟩], none⟩) hH.out (by rintro w ⟨s0, s1, s2, s3⟩; go_simp <;> with_reducible rfl) ?_
          simp only [Act.put, sA, sB, sC]
          refine tk (i := 8) (oi := ⟨some 52, .load 3 (.tmp 51), 3, "ref.go:193", #[⟨7, .data⟩], none⟩) hH.out (by rintro w ⟨s0, s1, s2, s3⟩; go_simp <;> with_reducible rfl) ?_
          simp only [Act.put, sA, sB, sC]
          refine tk (i := 9) (oi := ⟨some 53, .binOp .add 3 (.const (Go.Value.int Go.IntKind.i64 2)) (.tmp 52) 3, 3, "ref.go:193", #[⟨8, .data⟩], none⟩) hH.out (by rintro w ⟨s0, s1, s2, s3⟩; go_simp <;> with_reducible rfl) ?_
          simp only [Act.put, sA, sB, sC]
          refine tk (i := 10) (oi := ⟨some 54, .move (.tmp 3), 3, "ref.go:193", #[], none⟩) hH.out (by rintro w ⟨s0, s1, s2, s3⟩; go_simp <;> with_reducible rfl) ?_
          simp only [Act.put, sA, sB, sC]
          refine tk (i := 11) (oi := ⟨some 55, .binOp .add 3 (.tmp 53) (.tmp 54) 3, 3, "ref.go:193", #[⟨9, .data⟩, ⟨10, .data⟩], none⟩) hH.out (by rintro w ⟨s0, s1, s2, s3⟩; go_simp <;> with_reducible rfl) ?_
          simp only [Act.put, sA, sB, sC]
          refine tk (i := 12) (oi := ⟨some 56, .move (.tmp 0), 34, "ref.go:193", #[], none⟩) hH.out (by rintro w ⟨s0, s1, s2, s3⟩; go_simp <;> with_reducible rfl) ?_
          simp only [Act.put, sA, sB, sC]
          refine tk (i := 13) (oi := ⟨some 57, .nilCheck (.tmp 56), 0, "ref.go:193", #[⟨12, .data⟩], none⟩) hH.out (by rintro w ⟨s0, s1, s2, s3⟩; go_simp <;> with_reducible rfl) ?_
          simp only [Act.put, sA, sB, sC]
          refine tk (i := 14) (oi := ⟨some 58, .fieldAddr 52 (.tmp 57) 6, 0, "ref.go:193", #[⟨13, .data⟩], none⟩) hH.out (by rintro w ⟨s0, s1, s2, s3⟩; go_simp <;> with_reducible rfl) ?_
          simp only [Act.put, sA, sB, sC]
          refine tk (i := 15) (oi := ⟨some 59, .load 50 (.tmp 58), 50, "ref.go:193", #[⟨14, .data⟩], none⟩) hH.out (by rintro w ⟨s0, s1, s2, s3⟩; go_simp <;> with_reducible rfl) ?_
          simp only [Act.put, sA, sB, sC]
          refine tk (i := 16) (oi := ⟨some 60, .move (.tmp 3), 3, "ref.go:193", #[], none⟩) hH.out (by rintro w ⟨s0, s1, s2, s3⟩; go_simp <;> with_reducible rfl) ?_
          simp only [Act.put, sA, sB, sC]
          refine tk (i := 17) (oi := ⟨some 61, .indexAddr 50 (.tmp 59) (.tmp 60), 0, "ref.go:193", #[⟨15, .data⟩, ⟨16, .data⟩], none⟩) hH.out (by rintro w ⟨s0, s1, s2, s3⟩; go_simp <;> with_reducible rfl) ?_
          simp only [Act.put, sA, sB, sC]
          refine tk (i := 18) (oi := ⟨some 62, .load 53 (.tmp 61), 53, "ref.go:193", #[⟨17, .data⟩], none⟩) hH.out (by rintro w ⟨s0, s1, s2, s3⟩; go_simp <;> with_reducible rfl) ?_
          simp only [Act.put, sA, sB, sC]
          refine rdy (i := 19) (oi := ⟨some 63, .call ⟨.value (.func 52), #[.tmp 48, .tmp 55, .tmp 62], #[28, 3, 53]⟩, 3, "ref.go:193", #[⟨4, .data⟩, ⟨11, .data⟩, ⟨18, .data⟩], none⟩) (fun K hK => ?_)
          go_simp
          refine HWR.out.mono ?_
          rintro x w9 ⟨rfl, G9, k9, a9⟩
          obtain ⟨hs9, hc9, h7, hf7, hcs⟩ := HFR.out G9 w9 k9 a9
          have HS9 := Lib.hid hs9
          have K9 := Lib.hid hc9
          have K9s := Lib.hid (hcs (.int .i64 WE))
          have HA9 := Lib.hid a9
          clear k9 a9 hs9 hc9 hcs
          go_wp2_with fail
          refine hK.out _ _ (by first | with_reducible exact K9s.out | with_reducible exact K9.out | with_reducible exact K1.out | with_reducible exact K0.out) (fun hHeld => ?_)
          replace hH := Lib.hid hHeld
          clear hK K hHeld
          try simp only [Act.put, sA, sB, sC]
          refine tk (i := 20) (oi := ⟨some 64, .nilCheck (.tmp 44), 0, "ref.go:193", #[⟨0, .data⟩, ⟨0, .phase⟩, ⟨1, .phase⟩, ⟨2, .phase⟩, ⟨3, .phase⟩, ⟨4, .phase⟩, ⟨5, .phase⟩, ⟨6, .phase⟩, ⟨7, .phase⟩, ⟨8, .phase⟩, ⟨9, .phase⟩, ⟨10, .phase⟩, ⟨11, .phase⟩, ⟨12, .phase⟩, ⟨13, .phase⟩, ⟨14, .phase⟩, ⟨15, .phase⟩, ⟨16, .phase⟩, ⟨17, .phase⟩, ⟨18, .phase⟩, ⟨19, .phase⟩], none⟩) hH.out (by rintro w ⟨s0, s1, s2, s3⟩; go_simp <;> with_reducible rfl) ?_
          simp only [Act.put, sA, sB, sC]
          refine tk (i := 21) (oi := ⟨some 65, .fieldAddr 52 (.tmp 64) 7, 0, "ref.go:193", #[⟨20, .data⟩, ⟨0, .phase⟩, ⟨1, .phase⟩, ⟨2, .phase⟩, ⟨3, .phase⟩, ⟨4, .phase⟩, ⟨5, .phase⟩, ⟨6, .phase⟩, ⟨7, .phase⟩, ⟨8, .phase⟩, ⟨9, .phase⟩, ⟨10, .phase⟩, ⟨11, .phase⟩, ⟨12, .phase⟩, ⟨13, .phase⟩, ⟨14, .phase⟩, ⟨15, .phase⟩, ⟨16, .phase⟩, ⟨17, .phase⟩, ⟨18, .phase⟩, ⟨19, .phase⟩], none⟩) hH.out (by rintro w ⟨s0, s1, s2, s3⟩; go_simp <;> with_reducible rfl) ?_
          simp only [Act.put, sA, sB, sC]
          refine rdy (i := 22) (oi := ⟨none, .store 3 (.tmp 65) (.tmp 63), 0, "ref.go:193", #[⟨21, .data⟩, ⟨19, .data⟩, ⟨19, .chain⟩, ⟨0, .phase⟩, ⟨1, .phase⟩, ⟨2, .phase⟩, ⟨3, .phase⟩, ⟨4, .phase⟩, ⟨5, .phase⟩, ⟨6, .phase⟩, ⟨7, .phase⟩, ⟨8, .phase⟩, ⟨9, .phase⟩, ⟨10, .phase⟩, ⟨11, .phase⟩, ⟨12, .phase⟩, ⟨13, .phase⟩, ⟨14, .phase⟩, ⟨15, .phase⟩, ⟨16, .phase⟩, ⟨17, .phase⟩, ⟨18, .phase⟩, ⟨19, .phase⟩], none⟩) (fun K hK => ?_)
          go_simp
          refine hK.out _ _ (by first | with_reducible exact K9s.out | with_reducible exact K9.out | with_reducible exact K1.out | with_reducible exact K0.out) (fun hHeld => ?_)
          replace hH := Lib.hid hHeld
          clear hK K hHeld
          try simp only [Act.put]
          refine wpAnyH_done (by kernel_rfl) ?_ _
          go_wp2_with fail
          obtain ⟨hs9, ha9⟩ := HS9.out.setErr WE
          have hlt := HLT.out
          refine ⟨⟨k + 1, Wr.1, G9, WE, by rw [← HM.out]; omega, by go_num, HQW.out, hs9, HAD.out.trans ((yadv_disk (Adv.of_drew HA9.out)).trans ha9), ?_⟩, by simp [intOf] <;> omega⟩
          by_cases hw0 : WE = 0
          · exact .inl ⟨hw0, by rw [HLAY2.out, if_pos (by rw [← HWE.out]; exact hw0)]⟩
          · exact .inr ⟨hw0, by rw [HLAY2.out, if_neg (by rw [← HWE.out]; exact hw0), HWE.out]⟩
      · obtain rfl : k = M := by omega
        have hlay2 : putHomes s1 n (awayL g.A (N - 2 - n)) = (sk, 0) := by rw [hlay, ← HM.out, awK_end]; rfl
        rw [hlay2, if_pos rfl] at HCP
        obtain ⟨X, hX⟩ : ∃ z, z = flushS sk := ⟨_, rfl⟩
        have HFL := Lib.hid (rflush_dk x N Gk sk wr hys.dk (by have := HN.out; omega) (by have := HQ1.out; have := HN.out; have := HM.out; omega))
        rw [← hX] at HFL
        have HCP2 := Lib.hid HCP.out
        have HXX := Lib.hid hX
        obtain ⟨XE, hXE⟩ : ∃ z, z = X.2 := ⟨_, rfl⟩
        rw [← hXE] at HFL
        have HXE := Lib.hid hXE
        have HYS := Lib.hid hys
        have HAD := Lib.hid (HA1.out.trans had)
        have HQK := Lib.hid (show X.1.Q.length ≤ 900000 by rw [hX]; have := few_flush sk; have := HQ1.out; have := HN.out; have := HM.out; omega)
        clear hk hqk hys had hcase hlay hlay2 hlt hX hXE c7 c1
        go_wp2_with fail
        refine HFL.out.mono ?_
        rintro e w2 ⟨rfl, k2, a2⟩
        have hs2 := HYS.out.disk a2 k2
        obtain ⟨hs3, ha3⟩ := hs2.setErr XE
        have d7 : w2.cell? ⟨y, 7, none⟩ = some (.int .i64 0) := hs2.lg.blk.cell 7
        have f7 := hs2.lg.blk.frozen 7
        obtain ⟨V2, hV2⟩ : ∃ V, V = w2.setCell ⟨y, 7, none⟩ (.int .i64 XE) := ⟨_, rfl⟩
        rw [← hV2] at hs3 ha3
        have HS3 := Lib.hid hs3
        have HA3 := Lib.hid (HAD.out.trans ((yadv_disk (y := y) (b := b1) a2).trans ha3))
        have HV2 := Lib.hid hV2
        clear k2 a2 hs2 hs3 ha3 hV2 c0 c6
        go_upto_region 13 with (fail)
        rw [← HV2.out]
        clear d7 f7
        obtain ⟨p0, -, p2, p3, -, p5, p6, p7⟩ := HS3.out.lg.cells
        have p7' : V2.cell? ⟨y, 7, none⟩ = some (.int .i64 XE) := p7
        clear p7
        by_cases hx0 : XE = 0
        rotate_left
        · have hb2 : ((XE : Int) == 0) = false := by rw [beq_eq_false_iff_ne]; exact hx0
          have hb3 : ((XE : Int) != 0) = true := by rw [bne_iff_ne]; exact hx0
          have HF := Lib.hid (show YrR Z w G x y b n N R (.returned (.int .i64 XE)) V2 by
            rw [HR.out, HCP2.out, ← HXX.out, ← HXE.out, if_neg hx0]
            exact ⟨rfl, Gk, b1, HS3.out, HA3.out⟩)
          clear hx0 p0 p2 p3 p5 p6
          go_wp2_with fail
          go_ret
          exact HF.out
        subst hx0
        obtain ⟨nx, hnx⟩ : ∃ z, z = g.next := ⟨_, rfl⟩
        obtain ⟨ep, hep⟩ : ∃ z, z = g.ep := ⟨_, rfl⟩
        obtain ⟨SV, hSV⟩ : ∃ z, z = saveG X.1 N g.ep (hNew g) := ⟨_, rfl⟩
        rw [← HXX.out, if_pos HXE.out.symm, ← hSV] at HCP2
        have hSV2 : SV = saveS X.1 N 0 ep ⟨gg + 1, nx, ep⟩ := by
          rw [hSV, saveG, if_neg (show ¬ 1099511627775 < (hNew g).g by show ¬ 1099511627775 < g.h.g + 1; have := HG.out; omega), hep, hnx, HGG.out]
          rfl
        obtain ⟨SW, hSW⟩ : ∃ z, z = SV.2 := ⟨_, rfl⟩
        have HSAVE := Lib.hid (show Calls Tryz.prog 57 #[.pointer (some ⟨x, 0, none⟩), .int .i64 0, .int .u64 (ep : Int), .agg #[.int .u64 ((gg : Int) + 1), .int .u64 (nx : Int), .int .u64 (ep : Int)]] V2.drew fun e w' => e = .returned (.int .i64 SW) ∧ ∃ G', Rk w' G' x N SV.1 ∧ Adv Gk V2.drew G' w' by
          have := rsave_dk x N Gk X.1 0 ep ⟨gg + 1, nx, ep⟩ V2.drew (HS3.out.dk.drewN 1) HQK.out HN.out.2.2 (by have := HN.out; omega) (by rw [hnx]; exact HNX.out) (by rw [hep]; exact HEP.out)
          rw [← hSV2] at this
          rw [hSW]
          exact this)
        have hwg : IntKind.u64.wrap ((gg : Int) + 1) = (gg : Int) + 1 := by
          have := wrapU (x := gg + 1) (by rw [HGG.out]; have := HG.out; omega)
          rw [Int.natCast_add] at this
          exact this
        have HSW := Lib.hid hSW
        have K0 := Lib.hid (show YsC V2 y x ep gg nx from ⟨p0, by rw [hep]; exact p2, by rw [HGG.out]; exact p3, by rw [hnx]; exact p5⟩)
        have K1 := Lib.hid (show YsC V2.drew y x ep gg nx from K0.out)
        have HFR := Lib.hid (show ∀ (G9 : Nat → Prop) (w9 : World), Rk w9 G9 x N SV.1 → Adv Gk V2.drew G9 w9 → Ys Z w9 G9 x y b1 n N SV.1 { g with err := 0 } ∧ YsC w9 y x ep gg nx ∧ w9.cell? ⟨y, 7, none⟩ = some (.int .i64 0) ∧ w9.frozen? ⟨y, 7, none⟩ = false ∧ ∀ u, YsC (w9.setCell ⟨y, 7, none⟩ u) y x ep gg nx from fun G9 w9 k9 a9 => by
          have h9 := HS3.out.disk (Adv.of_drew a9) k9
          have hB := h9.lg.blk
          refine ⟨h9, ⟨hB.cell 0, (hB.cell 2).trans (by rw [hep]; rfl), (hB.cell 3).trans (by rw [HGG.out]; rfl), (hB.cell 5).trans (by rw [hnx]; rfl)⟩, hB.cell 7, hB.frozen 7, fun u => ?_⟩
          have hB' := hB.set_ 7 u
          exact ⟨(hB'.cell 0).trans rfl, (hB'.cell 2).trans (by rw [hep]; rfl), (hB'.cell 3).trans (by rw [HGG.out]; rfl), (hB'.cell 5).trans (by rw [hnx]; rfl)⟩)
        have HNX2 := Lib.hid hnx
        have HEP2 := Lib.hid hep
        clear hSV hSV2 hSW p0 p2 p3 p5 p6 hnx hep
        go_upto_region 14 with (fail)
        obtain ⟨d0, d2, d3, d5⟩ := K0.out
        clear p7'
        refine rstart (S := (fun w' => YsC w' y x ep gg nx)) (by first | with_reducible exact K9s.out | with_reducible exact K9.out | with_reducible exact K1.out | with_reducible exact K0.out) (fun hH => ?_)
        refine tk (i := 0) (oi := ⟨some 84, .move (.tmp 0), 34, "ref.go:200", #[], none⟩) hH.out (by rintro w ⟨s0, s1, s2, s3⟩; go_simp <;> with_reducible rfl) ?_
        simp only [Act.put, sA, sB, sC]
        refine tk (i := 1) (oi := ⟨some 85, .move (.tmp 0), 34, "ref.go:200", #[], none⟩) hH.out (by rintro w ⟨s0, s1, s2, s3⟩; go_simp <;> with_reducible rfl) ?_
        simp only [Act.put, sA, sB, sC]
        refine tk (i := 2) (oi := ⟨some 86, .nilCheck (.tmp 85), 0, "ref.go:200", #[⟨1, .data⟩], none⟩) hH.out (by rintro w ⟨s0, s1, s2, s3⟩; go_simp <;> with_reducible rfl) ?_
        simp only [Act.put, sA, sB, sC]
        refine tk (i := 3) (oi := ⟨some 87, .fieldAddr 52 (.tmp 86) 0, 0, "ref.go:200", #[⟨2, .data⟩], none⟩) hH.out (by rintro w ⟨s0, s1, s2, s3⟩; go_simp <;> with_reducible rfl) ?_
        simp only [Act.put, sA, sB, sC]
        refine tk (i := 4) (oi := ⟨some 88, .load 28 (.tmp 87), 28, "ref.go:200", #[⟨3, .data⟩], none⟩) hH.out (by rintro w ⟨s0, s1, s2, s3⟩; go_simp <;> with_reducible rfl) ?_
        simp only [Act.put, sA, sB, sC]
        refine tk (i := 5) (oi := ⟨some 89, .move (.tmp 0), 34, "ref.go:200", #[], none⟩) hH.out (by rintro w ⟨s0, s1, s2, s3⟩; go_simp <;> with_reducible rfl) ?_
        simp only [Act.put, sA, sB, sC]
        refine tk (i := 6) (oi := ⟨some 90, .nilCheck (.tmp 89), 0, "ref.go:200", #[⟨5, .data⟩], none⟩) hH.out (by rintro w ⟨s0, s1, s2, s3⟩; go_simp <;> with_reducible rfl) ?_
        simp only [Act.put, sA, sB, sC]
        refine tk (i := 7) (oi := ⟨some 91, .fieldAddr 52 (.tmp 90) 2, 0, "ref.go:200", #[⟨6, .data⟩], none⟩) hH.out (by rintro w ⟨s0, s1, s2, s3⟩; go_simp <;> with_reducible rfl) ?_
        simp only [Act.put, sA, sB, sC]
        refine tk (i := 8) (oi := ⟨some 92, .load 49 (.tmp 91), 49, "ref.go:200", #[⟨7, .data⟩], none⟩) hH.out (by rintro w ⟨s0, s1, s2, s3⟩; go_simp <;> with_reducible rfl) ?_
        simp only [Act.put, sA, sB, sC]
        refine tk (i := 9) (oi := ⟨some 93, .move (.tmp 0), 34, "ref.go:200", #[], none⟩) hH.out (by rintro w ⟨s0, s1, s2, s3⟩; go_simp <;> with_reducible rfl) ?_
        simp only [Act.put, sA, sB, sC]
        refine tk (i := 10) (oi := ⟨some 94, .nilCheck (.tmp 93), 0, "ref.go:200", #[⟨9, .data⟩], none⟩) hH.out (by rintro w ⟨s0, s1, s2, s3⟩; go_simp <;> with_reducible rfl) ?_
        simp only [Act.put, sA, sB, sC]
        refine tk (i := 11) (oi := ⟨some 95, .fieldAddr 52 (.tmp 94) 3, 0, "ref.go:200", #[⟨10, .data⟩], none⟩) hH.out (by rintro w ⟨s0, s1, s2, s3⟩; go_simp <;> with_reducible rfl) ?_
        simp only [Act.put, sA, sB, sC]
        refine tk (i := 12) (oi := ⟨some 96, .load 49 (.tmp 95), 49, "ref.go:200", #[⟨11, .data⟩], none⟩) hH.out (by rintro w ⟨s0, s1, s2, s3⟩; go_simp <;> with_reducible rfl) ?_
        simp only [Act.put, sA, sB, sC]
        refine tk (i := 13) (oi := ⟨some 97, .binOp .add 49 (.tmp 96) (.const (Go.Value.int Go.IntKind.u64 1)) 49, 49, "ref.go:200", #[⟨12, .data⟩], none⟩) hH.out (by rintro w ⟨s0, s1, s2, s3⟩; go_simp <;> with_reducible rfl) ?_
        simp only [Act.put, sA, sB, sC]
        refine tk (i := 14) (oi := ⟨some 98, .move (.tmp 0), 34, "ref.go:200", #[], none⟩) hH.out (by rintro w ⟨s0, s1, s2, s3⟩; go_simp <;> with_reducible rfl) ?_
        simp only [Act.put, sA, sB, sC]
        refine tk (i := 15) (oi := ⟨some 99, .nilCheck (.tmp 98), 0, "ref.go:200", #[⟨14, .data⟩], none⟩) hH.out (by rintro w ⟨s0, s1, s2, s3⟩; go_simp <;> with_reducible rfl) ?_
        simp only [Act.put, sA, sB, sC]
        refine tk (i := 16) (oi := ⟨some 100, .fieldAddr 52 (.tmp 99) 5, 0, "ref.go:200", #[⟨15, .data⟩], none⟩) hH.out (by rintro w ⟨s0, s1, s2, s3⟩; go_simp <;> with_reducible rfl) ?_
        simp only [Act.put, sA, sB, sC]
        refine tk (i := 17) (oi := ⟨some 101, .load 49 (.tmp 100), 49, "ref.go:200", #[⟨16, .data⟩], none⟩) hH.out (by rintro w ⟨s0, s1, s2, s3⟩; go_simp <;> with_reducible rfl) ?_
        simp only [Act.put, sA, sB, sC]
        refine tk (i := 18) (oi := ⟨some 102, .move (.tmp 0), 34, "ref.go:200", #[], none⟩) hH.out (by rintro w ⟨s0, s1, s2, s3⟩; go_simp <;> with_reducible rfl) ?_
        simp only [Act.put, sA, sB, sC]
        refine tk (i := 19) (oi := ⟨some 103, .nilCheck (.tmp 102), 0, "ref.go:200", #[⟨18, .data⟩], none⟩) hH.out (by rintro w ⟨s0, s1, s2, s3⟩; go_simp <;> with_reducible rfl) ?_
        simp only [Act.put, sA, sB, sC]
        refine tk (i := 20) (oi := ⟨some 104, .fieldAddr 52 (.tmp 103) 2, 0, "ref.go:200", #[⟨19, .data⟩], none⟩) hH.out (by rintro w ⟨s0, s1, s2, s3⟩; go_simp <;> with_reducible rfl) ?_
        simp only [Act.put, sA, sB, sC]
        refine tk (i := 21) (oi := ⟨some 105, .load 49 (.tmp 104), 49, "ref.go:200", #[⟨20, .data⟩], none⟩) hH.out (by rintro w ⟨s0, s1, s2, s3⟩; go_simp <;> with_reducible rfl) ?_
        simp only [Act.put, sA, sB, sC]
        refine tk (i := 22) (oi := ⟨some 106, .build 76 #[(0, .tmp 97), (1, .tmp 101), (2, .tmp 105)], 76, "ref.go:200", #[⟨13, .data⟩, ⟨17, .data⟩, ⟨21, .data⟩], none⟩) hH.out (by rintro w ⟨s0, s1, s2, s3⟩; go_simp <;> with_reducible rfl) ?_
        simp only [Act.put, sA, sB, sC]
        refine rdy (i := 23) (oi := ⟨some 107, .call ⟨.value (.func 57), #[.tmp 88, .const (Go.Value.int Go.IntKind.i64 0), .tmp 92, .tmp 106], #[28, 3, 49, 76]⟩, 3, "ref.go:200", #[⟨4, .data⟩, ⟨8, .data⟩, ⟨22, .data⟩], none⟩) (fun K hK => ?_)
        go_simp
        refine HSAVE.out.mono ?_
        rintro x w9 ⟨rfl, G9, k9, a9⟩
        obtain ⟨hs9, hc9, h7, hf7, hcs⟩ := HFR.out G9 w9 k9 a9
        have HS9 := Lib.hid hs9
        have K9 := Lib.hid hc9
        have K9s := Lib.hid (hcs (.int .i64 SW))
        have HA9 := Lib.hid a9
        clear k9 a9 hs9 hc9 hcs
        go_wp2_with fail
        refine hK.out _ _ (by first | with_reducible exact K9s.out | with_reducible exact K9.out | with_reducible exact K1.out | with_reducible exact K0.out) (fun hHeld => ?_)
        replace hH := Lib.hid hHeld
        clear hK K hHeld
        try simp only [Act.put, sA, sB, sC]
        refine tk (i := 24) (oi := ⟨some 108, .nilCheck (.tmp 84), 0, "ref.go:200", #[⟨0, .data⟩, ⟨0, .phase⟩, ⟨1, .phase⟩, ⟨2, .phase⟩, ⟨3, .phase⟩, ⟨4, .phase⟩, ⟨5, .phase⟩, ⟨6, .phase⟩, ⟨7, .phase⟩, ⟨8, .phase⟩, ⟨9, .phase⟩, ⟨10, .phase⟩, ⟨11, .phase⟩, ⟨12, .phase⟩, ⟨13, .phase⟩, ⟨14, .phase⟩, ⟨15, .phase⟩, ⟨16, .phase⟩, ⟨17, .phase⟩, ⟨18, .phase⟩, ⟨19, .phase⟩, ⟨20, .phase⟩, ⟨21, .phase⟩, ⟨22, .phase⟩, ⟨23, .phase⟩], none⟩) hH.out (by rintro w ⟨s0, s1, s2, s3⟩; go_simp <;> with_reducible rfl) ?_
        simp only [Act.put, sA, sB, sC]
        refine tk (i := 25) (oi := ⟨some 109, .fieldAddr 52 (.tmp 108) 7, 0, "ref.go:200", #[⟨24, .data⟩, ⟨0, .phase⟩, ⟨1, .phase⟩, ⟨2, .phase⟩, ⟨3, .phase⟩, ⟨4, .phase⟩, ⟨5, .phase⟩, ⟨6, .phase⟩, ⟨7, .phase⟩, ⟨8, .phase⟩, ⟨9, .phase⟩, ⟨10, .phase⟩, ⟨11, .phase⟩, ⟨12, .phase⟩, ⟨13, .phase⟩, ⟨14, .phase⟩, ⟨15, .phase⟩, ⟨16, .phase⟩, ⟨17, .phase⟩, ⟨18, .phase⟩, ⟨19, .phase⟩, ⟨20, .phase⟩, ⟨21, .phase⟩, ⟨22, .phase⟩, ⟨23, .phase⟩], none⟩) hH.out (by rintro w ⟨s0, s1, s2, s3⟩; go_simp <;> with_reducible rfl) ?_
        simp only [Act.put, sA, sB, sC]
        refine rdy (i := 26) (oi := ⟨none, .store 3 (.tmp 109) (.tmp 107), 0, "ref.go:200", #[⟨25, .data⟩, ⟨23, .data⟩, ⟨23, .chain⟩, ⟨0, .phase⟩, ⟨1, .phase⟩, ⟨2, .phase⟩, ⟨3, .phase⟩, ⟨4, .phase⟩, ⟨5, .phase⟩, ⟨6, .phase⟩, ⟨7, .phase⟩, ⟨8, .phase⟩, ⟨9, .phase⟩, ⟨10, .phase⟩, ⟨11, .phase⟩, ⟨12, .phase⟩, ⟨13, .phase⟩, ⟨14, .phase⟩, ⟨15, .phase⟩, ⟨16, .phase⟩, ⟨17, .phase⟩, ⟨18, .phase⟩, ⟨19, .phase⟩, ⟨20, .phase⟩, ⟨21, .phase⟩, ⟨22, .phase⟩, ⟨23, .phase⟩], none⟩) (fun K hK => ?_)
        go_simp
        refine hK.out _ _ (by first | with_reducible exact K9s.out | with_reducible exact K9.out | with_reducible exact K1.out | with_reducible exact K0.out) (fun hHeld => ?_)
        replace hH := Lib.hid hHeld
        clear hK K hHeld
        try simp only [Act.put]
        refine wpAnyH_done (by kernel_rfl) ?_ _
        obtain ⟨hs9, ha9⟩ := HS9.out.setErr SW
        obtain ⟨V3, hV3⟩ : ∃ V, V = w9.setCell ⟨y, 7, none⟩ (.int .i64 SW) := ⟨_, rfl⟩
        rw [← hV3] at hs9 ha9
        have HS4 := Lib.hid hs9
        have HA4 := Lib.hid (HA3.out.trans ((yadv_disk (y := y) (b := b1) (Adv.of_drew HA9.out)).trans ha9))
        have HV3 := Lib.hid hV3
        clear hs9 ha9 hV3 d0 d2 d3 d5
        go_upto_region 15 with (fail)
        rw [← HV3.out]
        clear h7 hf7
        obtain ⟨-, -, -, p3, -, p5, p6, p7⟩ := HS4.out.lg.cells
        have p7' : V3.cell? ⟨y, 7, none⟩ = some (.int .i64 SW) := p7
        clear p7
        by_cases hx0 : SW = 0
        rotate_left
        · have hb3 : ((SW : Int) != 0) = true := by rw [bne_iff_ne]; exact hx0
          have hb2 : ((SW : Int) == 0) = false := by rw [beq_eq_false_iff_ne]; exact hx0
          have HF := Lib.hid (show YrR Z w G x y b n N R (.returned (.int .i64 SW)) V3 by
            rw [HR.out, HCP2.out, if_neg (by rw [← HSW.out]; exact hx0), ← HSW.out]
            exact ⟨rfl, G9, b1, HS4.out, HA4.out⟩)
          clear hx0 p3 p5 p6
          go_wp2_with fail
          go_ret
          exact HF.out
        subst hx0
        have q3 : V3.cell? ⟨y, 3, none⟩ = some (.int .u64 (gg : Int)) := by rw [HGG.out]; exact p3
        have q5 : V3.cell? ⟨y, 5, none⟩ = some (.int .u64 (nx : Int)) := by rw [HNX2.out]; exact p5
        have f3 := HS4.out.lg.blk.frozen 3
        have f4 := HS4.out.lg.blk.frozen 4
        have q4 : V3.cell? ⟨y, 4, none⟩ = some (.int .u64 (g.h.t : Int)) := HS4.out.lg.blk.cell 4
        clear p3 p5 p6
        go_upto_region 17 with (fail)
        clear p7'
        go_region
        obtain ⟨V4, hV4⟩ : ∃ V, V = ((V3.setCell ⟨y, 3, none⟩ (.int .u64 ((gg : Int) + 1))).setCell ⟨y, 4, none⟩ (.int .u64 (nx : Int))).drew := ⟨_, rfl⟩
        rw [← hV4]
        have haV : Adv (LF y b1) V3 (LF y b1) V4 := by
          rw [hV4]
          exact (((Adv.refl (LF y b1) V3).setCell (p := ⟨y, 3, none⟩) (.inl (.inl rfl)) _).setCell (p := ⟨y, 4, none⟩) (.inl (.inl rfl)) _).drew
        have hyV : Yg V4 y x b1 n (N - 2 - n) (YK Z G9 y b1) { g with h := hNew g, err := 0 } := by
          have k1 := HS4.out.lg.setGen YK.iny (gg + 1)
          have k2 := k1.setTail YK.iny nx
          have k3 := k2.floor g.ep
          have k4 := k3.adv (K' := YK Z G9 y b1) ((Adv.refl Nul _).drew) (fun _ e => e.elim) (fun e => e) (fun e => e) (fun _ e => .inl e)
          rw [Int.natCast_add] at k4
          rw [hV4]
          have e : ({ g with h := hNew g, err := 0 } : LS) = { g with h := ⟨gg + 1, nx, g.ep⟩, err := 0 } := by rw [hNew, HGG.out, HNX2.out]
          rw [e]
          exact k4
        have HS5 := Lib.hid (HS4.out.log haV hyV)
        have HA5 := Lib.hid (HA4.out.trans (yadv_log haV))
        have r6 : V4.cell? ⟨y, 6, none⟩ = some (.slice (some ⟨b1, 0, none⟩) k k) := by rw [HM.out]; exact hyV.cells.2.2.2.2.2.2.1
        have g6 := hyV.blk.frozen 6
        have hmk := made_homes k (by omega) V4
        obtain ⟨b5, hb5⟩ : ∃ z, z = V4.heap.size := ⟨_, rfl⟩
        have hfin := HS5.out.fresh hb5
        rw [← HM.out] at hfin
        have HFR2 := Lib.hid hfin
        have HF := Lib.hid (show YrR Z w G x y b n N R (.returned (.int .i64 0)) ((V4.alloc (.cells (madeCells #[.slice none 0 0] (k * 1)) 53)).setCell ⟨y, 6, none⟩ (.slice (some ⟨b5, 0, none⟩) k k)) by
          rw [HR.out, HCP2.out, if_pos HSW.out.symm]
          refine ⟨rfl, G9, b5, ?_, HA5.out.trans HFR2.out.2⟩
          have e : ({ g with h := hNew g, A := fun _ => none } : LS) = { g with h := hNew g, err := 0, A := fun _ => none } := by
            show (⟨hNew g, g.next, g.ep, fun _ => none, g.err⟩ : LS) = ⟨hNew g, g.next, g.ep, fun _ => none, 0⟩
            rw [HG0.out]
          rw [e]
          exact HFR2.out.1)
        rw [← hb5] at hmk
        obtain ⟨V5, hV5⟩ : ∃ V, V = V4.alloc (.cells (madeCells #[.slice none 0 0] (k * 1)) 53) := ⟨_, rfl⟩
        rw [← hV5] at hmk HF
        have hB5 : Blk V5 y 52 _ := hyV.blk.keep (show V5.heap[y]? = V4.heap[y]? by rw [hV5]; exact Below.heap_alloc _ _ _ hyV.blk.lt)
        have r6' : V5.cell? ⟨y, 6, none⟩ = some (.slice (some ⟨b1, 0, none⟩) k k) := by rw [HM.out]; exact hB5.cell 6
        have g6' := hB5.frozen 6
        clear hV4 haV hyV hfin q3 q5 f3 f4 q4 hB5 hV5
        rw [hb5] at HF
        go_wp2_with fail
        go_ret
        exact HF.out
    · have hb2 : ((e : Int) == 0) = false := by rw [beq_eq_false_iff_ne]; exact he
      have hb3 : ((e : Int) != 0) = true := by rw [bne_iff_ne]; exact he
      have hlay : putHomes s1 n (awayL g.A (N - 2 - n)) = (sk, e) := by
        rcases hcase with h | h
        · exact absurd h.1 he
        · exact h.2
      have HF := Lib.hid (show YrR Z w G x y b n N R (.returned (.int .i64 e)) wr by
        rw [HR.out, HCP.out, hlay, if_neg he]
        exact ⟨rfl, Gk, b1, hys, HA1.out.trans had⟩)
      clear hk hqk hys had hcase hlay he c0 c1 c7
      by_cases hlt : k < M
      · have hki : (k : Int) < (M : Int) := by omega
        go_wp2_with fail
        go_ret
        exact HF.out
      · have hki : (M : Int) ≤ (k : Int) := by omega
        go_wp2_with fail
        go_ret
        exact HF.out
end Go.Proofs.YtbdjlmdbnoghnaaGreat
