/- A disk that no call made; DiskNobody. Open. lives: something is written at all. -/
import Derived.Test.YtolcnbiaiolcoaaGreatMgDl
import Derived.Test.YtolcnbiaiolcoaaGreatMgRf
import Derived.Deep.DeepCutAuto
namespace Go.Proofs.YtolcnbiaiolcoaaGreat
open Go.RowKit

def zD : Array Value := #[.slice none 0 0, .slice none 0 0, .slice none 0 0, .bool false, .bool false, .int .i64 0]
def DNo (w : World) (v : Value) : Prop := v = .pointer none ∨ ∃ d, v = .pointer (some ⟨d, 0, none⟩) ∧ Blk w d 67 zD

set_option maxRecDepth 3000 in
theorem made_no (v : Value) (w : World) (h : DNo w v) : Calls Tryz.prog 63 #[v] w fun e w' => e = .returned (.bool false) ∧ w = w' := by
  rcases h with rfl | ⟨d, rfl, hb⟩
  · go_enter Tryz.func63, Tryz.ntmps63
    go_wp2
    go_ret
    exact ⟨rfl, rfl⟩
  · have c0 : w.cell? ⟨d, 0, none⟩ = some (.slice none 0 0) := hb.cell 0
    clear hb
    go_enter Tryz.func63, Tryz.ntmps63
    go_wp2
    go_ret
    exact ⟨rfl, rfl⟩
set_option maxRecDepth 3000 in
theorem crash_no (v k t : Value) (w : World) (h : DNo w v) : Calls Tryz.prog 19 #[v, k, t] w fun e w' => e = .returned (.tuple #[]) ∧ w = w' := by
  have H := Lib.hid h
  clear h
  go_enter Tryz.func19, Tryz.ntmps19
  go_wp2_with (first
    | (go_at_call 63; refine (made_no _ _ H.out).mono ?_; rintro e w1 ⟨rfl, rfl⟩)
    | fail)
  refine bodyPost_ret (results_none rfl _ _ _) rfl ?_
  exact ⟨rfl, rfl⟩
set_option maxRecDepth 3000 in
theorem read_no (v i : Value) (w : World) (h : DNo w v) : Calls Tryz.prog 24 #[v, i] w fun e w' => e = .returned (.tuple #[.slice none 0 0, .int .i64 1]) ∧ w = w' := by
  have H := Lib.hid h
  clear h
  go_enter Tryz.func24, Tryz.ntmps24
  go_wp2_with (first
    | (go_at_call 63; refine (made_no _ _ H.out).mono ?_; rintro e w1 ⟨rfl, rfl⟩)
    | fail)
  go_ret2
  exact ⟨rfl, rfl⟩
set_option maxRecDepth 3000 in
theorem write_no (v i b : Value) (w : World) (h : DNo w v) : Calls Tryz.prog 85 #[v, i, b] w fun e w' => e = .returned (.int .i64 1) ∧ w = w' := by
  have H := Lib.hid h
  clear h
  go_enter Tryz.func85, Tryz.ntmps85
  go_wp2_with (first
    | (go_at_call 63; refine (made_no _ _ H.out).mono ?_; rintro e w1 ⟨rfl, rfl⟩)
    | fail)
  go_ret
  exact ⟨rfl, rfl⟩
set_option maxRecDepth 3000 in
theorem flush_no (v : Value) (w : World) (h : DNo w v) : Calls Tryz.prog 58 #[v] w fun e w' => e = .returned (.int .i64 1) ∧ w = w' := by
  have H := Lib.hid h
  clear h
  go_enter Tryz.func58, Tryz.ntmps58
  go_wp2_with (first
    | (go_at_call 63; refine (made_no _ _ H.out).mono ?_; rintro e w1 ⟨rfl, rfl⟩)
    | fail)
  go_ret
  exact ⟨rfl, rfl⟩
set_option maxRecDepth 3000 in
theorem fuse_no (v i : Value) (w : World) (h : DNo w v) : Calls Tryz.prog 17 #[v, i] w fun e w' => e = .returned (.int .i64 1) ∧ w = w' := by
  have H := Lib.hid h
  clear h
  go_enter Tryz.func17, Tryz.ntmps17
  go_wp2_with (first
    | (go_at_call 63; refine (made_no _ _ H.out).mono ?_; rintro e w1 ⟨rfl, rfl⟩)
    | fail)
  go_ret
  exact ⟨rfl, rfl⟩
set_option maxRecDepth 3000 in
theorem size_no (v : Value) (w : World) (h : DNo w v) : Calls Tryz.prog 34 #[v] w fun e w' => e = .returned (.int .i64 0) ∧ w = w' := by
  have H := Lib.hid h
  clear h
  go_enter Tryz.func34, Tryz.ntmps34
  go_wp2_with (first
    | (go_at_call 63; refine (made_no _ _ H.out).mono ?_; rintro e w1 ⟨rfl, rfl⟩)
    | fail)
  go_ret
  exact ⟨rfl, rfl⟩
set_option maxRecDepth 3000 in
theorem live_no (v : Value) (w : World) (h : DNo w v) : Calls Tryz.prog 31 #[v] w fun e w' => e = .returned (.bool false) ∧ w = w' := by
  have H := Lib.hid h
  clear h
  go_enter Tryz.func31, Tryz.ntmps31
  go_wp2_with (first
    | (go_at_call 63; refine (made_no _ _ H.out).mono ?_; rintro e w1 ⟨rfl, rfl⟩)
    | fail)
  go_ret
  exact ⟨rfl, rfl⟩
end Go.Proofs.YtolcnbiaiolcoaaGreat
namespace Go.Proofs.YtolcnbiaiolcoaaGreat
open Go.RowKit Go.Maps

theorem unHd_small {l : List Nat} {h : Hd} (hl : ∀ x ∈ l, x < 256) (e : unHd l = some h) : h.g ≤ 1099511627775 ∧ h.t < 1099511627776 ∧ h.f < 16777216 := by
  unfold unHd at e
  split at e
  · rename_i hc
    injection e with e
    subst e
    have h8 : ∀ x ∈ (dec l).d, x < 256 := fun x hx => by
      unfold dec at hx
      exact hl x (List.mem_of_mem_drop (List.mem_of_mem_take hx))
    have hv := val_lt8 hc.2.2.2 h8
    refine ⟨?_, ?_, ?_⟩
    · show (dec l).c ≤ _
      unfold dec
      simp only
      omega
    · show val (dec l).d / 16777216 < _
      omega
    · show val (dec l).d % 16777216 < _
      omega
  · cases e
theorem curAt_small {s : DS} {N p : Nat} (hsb : SB s N) : ∀ {k : Nat} {h : Hd}, p + k ≤ N → curAt s p k = some h → h.g ≤ 1099511627775 ∧ h.t < 1099511627776 ∧ h.f < 16777216
  | 0, h, _, e => by cases e
  | k + 1, h, hk, e => by
    have e1 : nx (curAt s p k) (unO (isS s (p + k)) k) = some h := e
    cases ho : unO (isS s (p + k)) k with
    | none => rw [ho] at e1; exact curAt_small hsb (by omega) e1
    | some h' =>
      have hu : unHd (isS s (p + k)) = some h' := by
        unfold unO at ho
        rw [Option.bind_eq_some_iff] at ho
        obtain ⟨x, h1, h2⟩ := ho
        split at h2
        · injection h2 with h2; rw [← h2]; exact h1
        · cases h2
      have hs := unHd_small (hsb (p + k) (by omega)) hu
      rw [ho] at e1
      unfold nx at e1
      simp only at e1
      split at e1
      · injection e1 with e1; rw [← e1]; exact hs
      · exact curAt_small hsb (by omega) e1
/-- the head that a disk has; none: Tail 0, Floor 1 -/
def headO (s : DS) : Hd := (curAt s 0 2).getD ⟨0, 0, 1⟩
def openL (s : DS) (n : Nat) : LS := ⟨headO s, (headO s).t, topE s (2 + n) + 1, fun _ => none, 0⟩
/-- the log that is opened -/
def openS (s : DS) (n N : Nat) : LS := (openL s n).at_ (saysR s n ((N - 2 - n : Nat) : Int) (n + 1) (r0G (openL s n)))
theorem headO_small {s : DS} {N : Nat} (hsb : SB s N) (hN : 2 ≤ N) : (headO s).g ≤ 1099511627775 ∧ (headO s).t < 1099511627776 ∧ (headO s).f < 16777216 := by
  unfold headO
  cases h : curAt s 0 2 with
  | none => simp
  | some x => exact curAt_small hsb (by omega) h
def OpR (w : World) (F : Nat → Prop) (d N : Nat) (s : DS) (n : Int) (e : Ending) (w' : World) : Prop :=
  (¬ (2 ≤ n ∧ n + 3 ≤ (N : Int)) ∧ e = .returned (.tuple #[.pointer none, .int .i64 2]) ∧ Adv Nul w Nul w') ∨
  ((2 ≤ n ∧ n + 3 ≤ (N : Int)) ∧ topE s (2 + n.toNat) = 16777215 ∧ e = .returned (.tuple #[.pointer none, .int .i64 8]) ∧ Adv Nul w Nul w') ∨
  ((2 ≤ n ∧ n + 3 ≤ (N : Int)) ∧ topE s (2 + n.toNat) < 16777215 ∧ ∃ l b, e = .returned (.tuple #[.pointer (some ⟨l, 0, none⟩), .int .i64 0]) ∧ Rs w' F d l b n.toNat N s (openS s n.toNat N) ∧ (w.heap.size ≤ l ∧ w.heap.size ≤ b) ∧ Adv Nul w Nul w')
set_option maxRecDepth 3000 in
theorem gopen_no (n : Int) (w : World) : Calls Tryz.prog 8 #[.pointer none, .int .i64 n] w fun e w' => e = .returned (.tuple #[.pointer none, .int .i64 1]) ∧ w = w' := by
  have HS := Lib.hid (size_no (.pointer none) w (.inl rfl))
  go_enter Tryz.func8, Tryz.ntmps8
  go_wp2_with fail
  refine HS.out.mono ?_
  rintro e w1 ⟨rfl, rfl⟩
  go_wp2_with fail
  exact bodyPost_ret (v := .tuple #[.pointer none, .int .i64 1]) (by simp [results, Tryz.results8, go_sem]) rfl ⟨rfl, rfl⟩

set_option maxRecDepth 3000 in
set_option maxHeartbeats 6400000 in
theorem gopen_dk (d N : Nat) (F : Nat → Prop) (s : DS) (n : Int) (w : World) (h : Dk w F d N s) (hsb : SB s N) (hN : 1 ≤ N ∧ N ≤ 900) (hn0 : -9223372036854775808 ≤ n) (hn1 : n < 9223372036854775808) :
    Calls Tryz.prog 8 #[.pointer (some ⟨d, 0, none⟩), .int .i64 n] w (OpR w F d N s n) := by
  have HSZ := Lib.hid (size_dk d N F s w h)
  have HD := Lib.hid h
  have HSB := Lib.hid hsb
  have HN := Lib.hid hN
  have hNb : ((N : Int) == 0) = false := by rw [beq_eq_false_iff_ne]; omega
  have hw2 : IntKind.i64.wrap ((N : Int) - 2) = (N : Int) - 2 := by rw [IntKind.wrap_i64]; omega
  have hw3 : IntKind.i64.wrap ((N : Int) - 2 - 1) = (N : Int) - 2 - 1 := by rw [IntKind.wrap_i64]; omega
  clear h hsb hN
  by_cases hn : 2 ≤ n ∧ n + 3 ≤ (N : Int)
  · obtain ⟨m, rfl⟩ := Int.eq_ofNat_of_zero_le (show 0 ≤ n by omega)
    have hmN : m + 3 ≤ N := by have := hn.2; omega
    have hm2 : 2 ≤ m := by have := hn.1; omega
    have hm2I : (2 : Int) ≤ (m : Int) := hn.1
    have hmI : (m : Int) ≤ (N : Int) - 2 - 1 := by omega
    have hwm : IntKind.i64.wrap (2 + (m : Int)) = ((2 + m : Nat) : Int) := by rw [IntKind.wrap_i64]; have := HN.out; omega
    have HTOP := Lib.hid (gtop_dk d N (2 + m) F s w HD.out HSB.out (by omega) (by have := HN.out; omega))
    have HM := Lib.hid (And.intro hm2 hmN)
    have HNN := Lib.hid hn
    have hIN : inR N 0 2 := fun j hj => by omega
    obtain ⟨T, hT⟩ : ∃ x, x = topE s (2 + m) := ⟨_, rfl⟩
    have hTlt : T < 16777216 := by rw [hT]; exact topE_lt HSB.out _ (by omega)
    rw [← hT] at HTOP
    have HT := Lib.hid hT
    have HTL := Lib.hid hTlt
    have HIN := Lib.hid hIN
    have hmm := @run_makeMap Tryz.prog
    clear hn hn0 hn1 hmN hm2 hT hTlt hIN
    go_enter Tryz.func8, Tryz.ntmps8
    go_wp2_with fail
    refine HSZ.out.mono ?_
    rintro e w1 ⟨rfl, rfl⟩
    go_wp2_with fail
    refine HSZ.out.mono ?_
    rintro e w1 ⟨rfl, rfl⟩
    go_wp2_with fail
    refine HTOP.out.mono ?_
    rintro e w1 ⟨rfl, a1⟩
    have HA1 := Lib.hid a1
    clear a1
    by_cases hTm : T = 16777215
    · subst hTm
      have HF := Lib.hid (show OpR w F d N s (m : Int) (.returned (.tuple #[.pointer none, .int .i64 8])) w1 from .inr (.inl ⟨HNN.out, HT.out.symm, rfl, HA1.out⟩))
      go_wp2_with fail
      exact bodyPost_ret (v := .tuple #[.pointer none, .int .i64 8]) (by simp [results, Tryz.results8, go_sem]) rfl HF.out
    · have hTb : ((T : Int) == 16777215) = false := by rw [beq_eq_false_iff_ne]; omega
      have hwT : IntKind.u64.wrap ((T : Int) + 1) = (T : Int) + 1 := by rw [IntKind.wrap_u64]; have := HTL.out; omega
      have HTN := Lib.hid (show T < 16777215 by have := HTL.out; omega)
      have HLD := Lib.hid (hload_dk d N F s 0 w1 (HD.out.far HA1.out (fun _ x _ => x)) HSB.out (by have := HN.out; omega) (by decide) (by decide))
      clear hTm
      go_wp2_with fail
      refine HLD.out.mono ?_
      rintro e w2 ⟨hl2, a2⟩
      rcases hl2 with ⟨_, rfl⟩ | ⟨hbad, _⟩
      · have HA2 := Lib.hid (HA1.out.trans a2)
        obtain ⟨c, hc⟩ : ∃ c, c = curAt s 0 2 := ⟨_, rfl⟩
        rw [show ((0 : Int).toNat) = 0 from rfl, ← hc]
        obtain ⟨⟨g, t, f⟩, hh⟩ : ∃ x, x = c.getD hZ := ⟨_, rfl⟩
        rw [← hh]
        have HC := Lib.hid hc
        have HH := Lib.hid hh
        obtain ⟨V, hV⟩ : ∃ V, V = w2.alloc (.cells #[.int .u64 (g : Int), .int .u64 (t : Int), .int .u64 (f : Int)] 73) := ⟨_, rfl⟩
        obtain ⟨z, hz⟩ : ∃ z, z = w2.heap.size := ⟨_, rfl⟩
        have HZ := Lib.hid (show Blk V z 73 (h3 (g : Int) (t : Int) (f : Int)) by rw [hV, hz]; exact Blk.new _ _ _)
        have HAV := Lib.hid (HA2.out.trans (show Adv Nul w2 Nul V by rw [hV]; exact (Adv.refl _ _).alloc _))
        have HWZ := Lib.hid (show w.heap.size ≤ z by rw [hz]; exact HA2.out.size)
        have HVV := Lib.hid hV
        have HZZ := Lib.hid hz
        clear a2 hc hh hV hz
        unfold hv
        simp only
        go_upto_region 9 with (fail)
        rw [← HVV.out, ← HZZ.out]
        go_upto_if 40 with (fail)
        go_cut [] (fun wr => Blk wr z 73 (h3 ((headO s).g : Int) ((headO s).t : Int) ((headO s).f : Int)) ∧ Adv Nul w Nul wr)
        case first =>
          have hcs := HC.out
          have hhs := HH.out
          cases c with
          | none =>
            have e : headO s = ⟨0, 0, 1⟩ := by unfold headO; rw [← hcs]; rfl
            have HE := Lib.hid e
            clear hcs hhs e
            go_wp2_with (first
              | (refine op_store3 sizeHead rfl (.tmp 7) (.tmp 41) rfl z _ (h3 0 0 1) HZ.out rfl rfl (h3_one _ _ _) rfl rfl ?_)
              | fail)
            go_meet
            rw [HE.out]
            exact ⟨HZ.out.putAll rfl, Adv.lsetCells _ 0 _ HAV.out (.inr HWZ.out)⟩
          | some x =>
            have e : headO s = ⟨g, t, f⟩ := by
              unfold headO
              rw [← hcs]
              exact hhs.symm
            have HE := Lib.hid e
            clear hcs hhs e
            go_wp2_with fail
            go_meet
            rw [HE.out]
            exact ⟨HZ.out, HAV.out⟩
        case rest =>
        obtain ⟨hzb, hac⟩ := hcut
        obtain ⟨⟨g1, t1, f1⟩, hhd⟩ : ∃ x, x = headO s := ⟨_, rfl⟩
        rw [← hhd] at hzb
        obtain ⟨z0, z1, z2⟩ := hzb.three
        have HHD := Lib.hid hhd
        have HAC := Lib.hid hac
        clear hzb hac hhd
        go_upto_region 14 with (fail)
        obtain ⟨W, hW⟩ : ∃ W, W = (wc.alloc (.map #[] 0)).alloc (.cells #[.pointer (some ⟨d, 0, none⟩), .int .i64 (m : Int), .int .u64 (g1 : Int), .int .u64 (t1 : Int), .int .u64 (f1 : Int), .int .u64 (t1 : Int), .int .u64 ((T : Int) + 1), .map (some wc.heap.size), .int .i64 0] 78) := ⟨_, rfl⟩
        obtain ⟨l, hl⟩ : ∃ l, l = wc.heap.size + 1 := ⟨_, rfl⟩
        rw [← hW, ← hl]
        have haw : Adv Nul wc Nul W := by rw [hW]; exact ((Adv.refl _ _).alloc _).alloc _
        have hopen : openL s m = ⟨⟨g1, t1, f1⟩, t1, T + 1, fun _ => none, 0⟩ := by unfold openL; rw [← HHD.out, ← HT.out]
        have HS2 := Lib.hid (show Rs W F d l wc.heap.size m N s (openL s m) from by
          refine ⟨HD.out.far (HAC.out.trans haw) (fun _ x _ => x), ⟨?_, ?_⟩, fun j hf hj => ?_⟩
          · have hb := Blk.new (wc.alloc (.map #[] 0)) 78 #[.pointer (some ⟨d, 0, none⟩), .int .i64 (m : Int), .int .u64 (g1 : Int), .int .u64 (t1 : Int), .int .u64 (f1 : Int), .int .u64 (t1 : Int), .int .u64 ((T : Int) + 1), .map (some wc.heap.size), .int .i64 0]
            rw [← hW] at hb
            have hsz : (wc.alloc (.map #[] 0)).heap.size = l := by rw [hl]; simp
            rw [hsz] at hb
            rw [hopen]
            exact hb
          · rw [hopen, hW]
            exact (Mp.new wc (N - 2 - m)).keep (Below.heap_alloc _ _ _ (by simp))
          · have h1 := HD.out.bd j hf
            have h2 := HAC.out.size
            rcases hj with e | e <;> omega)
        have HA9 := Lib.hid (HAC.out.trans haw)
        have HNEW := Lib.hid (show w.heap.size ≤ l ∧ w.heap.size ≤ wc.heap.size from ⟨by have := HAC.out.size; omega, HAC.out.size⟩)
        have HRP := Lib.hid (greplay_lg l wc.heap.size d m N (openL s m) F s W HS2.out HSB.out (by have := HM.out; have := HN.out; omega) (by have := headO_small HSB.out (by have := HM.out; omega); show (headO s).t ≤ _; omega))
        clear hW hl haw hopen z0 z1 z2 hmm
        go_wp2_with fail
        refine HRP.out.mono ?_
        rintro e w9 ⟨rfl, h9, a9⟩
        have HF := Lib.hid (show OpR w F d N s (m : Int) (.returned (.tuple #[.pointer (some ⟨l, 0, none⟩), .int .i64 0])) w9 by
          refine .inr (.inr ⟨HNN.out, by rw [Int.toNat_natCast, ← HT.out]; exact HTN.out, l, wc.heap.size, rfl, by rw [Int.toNat_natCast]; exact h9, HNEW.out, ?_⟩)
          exact ⟨a9.os.trans HA9.out.os, a9.tape.trans HA9.out.tape, a9.output.trans HA9.out.output, Nat.le_trans HA9.out.size a9.size, fun j hj _ => (a9.block j (Nat.lt_of_lt_of_le hj HA9.out.size) (fun x => by have := HNEW.out; rcases x with e | e <;> omega)).trans (HA9.out.block j hj (fun x => x)), fun _ x => x.elim⟩)
        clear h9 a9
        go_wp2_with fail
        exact bodyPost_ret (v := .tuple #[.pointer (some ⟨l, 0, none⟩), .int .i64 0]) (by simp [results, Tryz.results8, go_sem]) rfl HF.out
      · exact absurd HIN.out hbad
  · have HF := Lib.hid (show OpR w F d N s n (.returned (.tuple #[.pointer none, .int .i64 2])) w from .inl ⟨hn, rfl, Adv.refl _ _⟩)
    by_cases h2 : n < 2
    · clear hn
      go_enter Tryz.func8, Tryz.ntmps8
      go_wp2_with fail
      refine HSZ.out.mono ?_
      rintro e w1 ⟨rfl, rfl⟩
      go_wp2_with fail
      exact bodyPost_ret (v := .tuple #[.pointer none, .int .i64 2]) (by simp [results, Tryz.results8, go_sem]) rfl HF.out
    · have h2' : 2 ≤ n := by omega
      have h3 : (N : Int) - 2 - 1 < n := by omega
      clear hn h2
      go_enter Tryz.func8, Tryz.ntmps8
      go_wp2_with fail
      refine HSZ.out.mono ?_
      rintro e w1 ⟨rfl, rfl⟩
      go_wp2_with fail
      refine HSZ.out.mono ?_
      rintro e w1 ⟨rfl, rfl⟩
      go_wp2_with fail
      exact bodyPost_ret (v := .tuple #[.pointer none, .int .i64 2]) (by simp [results, Tryz.results8, go_sem]) rfl HF.out
end Go.Proofs.YtolcnbiaiolcoaaGreat
namespace Go.Proofs.YtolcnbiaiolcoaaGreat
open Go.RowKit Go.Maps

theorem saysR_A {s : DS} {n M : Nat} : ∀ {f : Nat} {r : Rp}, AOk M r.A → AOk M (saysR s n (M : Int) f r).A
  | 0, r, h => h
  | f + 1, r, h => by
    show AOk M (if RecOk s n (M : Int) r then saysR s n (M : Int) f (nextR s n r) else r).A
    split
    · rename_i ho
      refine saysR_A (f := f) ?_
      exact h.putA (fun p hp => (ho.2.2.2.row p hp)) (decP_bytes _) (by omega)
    · exact h
theorem openS_A (s : DS) (n N : Nat) : AOk (N - 2 - n) (openS s n N).A := saysR_A (AOk.none _)
theorem SB_of {s : DS} {N : Nat} (h : (List.range N).all (fun i => (isS s i).all (fun x => decide (x < 256))) = true) : SB s N := fun i hi x hx => by
  have h1 := List.all_eq_true.mp h i (List.mem_range.mpr hi)
  have h2 := List.all_eq_true.mp h1 x hx
  exact of_decide_eq_true h2

def lv7 : List Nat := 7 :: List.replicate 127 0
def lvP : List Pt := [⟨1, lv7⟩]
def lv0 : DS := newS 12
def lvG0 : LS := openS lv0 4 12
def lvW : (DS × LS) × Int := writeG lv0 4 12 lvG0 lvP
def lvS : (DS × LS) × Int := syncG lvW.1.1 lvW.1.2
def lvG1 : LS := openS lvS.1.1 4 12
theorem lv_t0 : topE lv0 6 = 0 := by kernel_rfl
theorem lv_g0 : lvG0.next = 0 ∧ lvG0.h = ⟨0, 0, 1⟩ ∧ lvG0.ep = 1 ∧ lvG0.err = 0 := by refine ⟨?_, ?_, ?_, ?_⟩ <;> kernel_rfl
theorem lv_w : lvW.2 = 0 := by kernel_rfl
theorem lv_s : lvS.2 = 0 := by kernel_rfl
theorem lv_t1 : topE lvS.1.1 6 = 1 := by kernel_rfl
theorem lv_b : lvG1.A 1 = some lv7 := by kernel_rfl
theorem lv_sb0 : SB lv0 12 := SB_of (by kernel_rfl)
theorem lv_sb1 : SB lvS.1.1 12 := SB_of (by kernel_rfl)
theorem lv_ok0 : GOk 4 12 lv0 lvG0 := by
  obtain ⟨h1, h2, h3, h4⟩ := lv_g0
  exact ⟨by decide, by show [].length ≤ _; decide, by rw [h1, h2]; decide, by rw [h1, h2]; decide, by rw [h1]; decide, by rw [h3]; decide⟩
theorem lv_home : homeG lvS.1.1 4 lvG1 1 = lv7 := by unfold homeG; rw [lv_b]; rfl

set_option maxRecDepth 3000 in
set_option maxHeartbeats 6400000 in
theorem glives_any (w : World) : Calls Tryz.prog 29 #[] w fun e w' => e = .returned (.bool true) ∧ Adv Nul w Nul w' := by
  have HNEW := Lib.hid (new_r 12 (by decide) (by decide) w)
  go_enter Tryz.func29, Tryz.ntmps29
  go_wp2_with fail
  refine HNEW.out.mono ?_
  rintro e w1 ⟨d, F, rfl, k1, a1⟩
  have HOP := Lib.hid (gopen_dk d 12 F lv0 4 w1 k1 lv_sb0 (by decide) (by decide) (by decide))
  have HA1 := Lib.hid (a1.sub (G := Nul) (fun _ x => x.elim))
  have HF1 := Lib.hid (show ∀ j, F j → w.heap.size ≤ j from fun j hj => by
    rcases a1.into j hj with h | h
    · exact h.elim
    · exact h)
  clear k1 a1
  go_wp2_with fail
  refine HOP.out.mono ?_
  intro e w2 h2
  rcases h2 with ⟨hb, -⟩ | ⟨-, ht, -⟩ | ⟨-, -, l, b, rfl, rs2, nw2, a2⟩
  · exact absurd (by decide) hb
  · exact absurd ht (by rw [show topE lv0 (2 + (4 : Int).toNat) = 0 from lv_t0]; decide)
  have rs2' : Rs w2 F d l b 4 12 lv0 lvG0 := rs2
  have HS2 := Lib.hid rs2'
  have HA2 := Lib.hid (HA1.out.trans a2)
  have HN2 := Lib.hid (show w.heap.size ≤ l ∧ w.heap.size ≤ b from ⟨Nat.le_trans HA1.out.size nw2.1, Nat.le_trans HA1.out.size nw2.2⟩)
  have hin : In (w2.alloc (.cells #[.int .u8 7] 5)) (.slice (some ⟨w2.heap.size, 0, none⟩) 1 1) [7] := by
    refine In.of_rd ⟨_, 1, rfl, Nat.le_refl _, by decide, rfl, fun e => (by cases e), fun _ => ⟨_, rfl, by simp, fun j u hu => ?_⟩⟩ (by decide)
    have e : (⟨w2.heap.size, 0, none⟩ : Addr).add j = ⟨w2.heap.size, j, none⟩ := by rw [add_none, Nat.zero_add]
    rw [e, (Blk.new w2 5 #[.int .u8 7]).cell, List.getElem?_toArray]
    exact hu
  have HSC := Lib.hid (sector_any _ [7] _ hin)
  clear rs2 rs2' nw2 a2 hin
  go_wp2_with fail
  refine HSC.out.mono ?_
  rintro e w4 ⟨v4, F4, rfl, s4, a4⟩
  obtain ⟨A4, c4, rfl, _, _⟩ := s4.form0
  obtain ⟨W, hW⟩ : ∃ W, W = w4.alloc (.cells #[.int .i64 1, .slice A4 128 c4] 94) := ⟨_, rfl⟩
  obtain ⟨z, hz⟩ : ∃ z, z = w4.heap.size := ⟨_, rfl⟩
  have ha4 : Adv Nul w2 Nul w4 := ((Adv.refl Nul w2).alloc _).trans (a4.sub (fun _ x => x.elim))
  have haw : Adv Nul w4 Nul W := by rw [hW]; exact (Adv.refl _ _).alloc _
  have HSW := Lib.hid (HS2.out.over (ha4.trans haw))
  have HAW := Lib.hid (HA2.out.trans (ha4.trans haw))
  have hzb : Blk W z 94 #[.int .i64 1, .slice A4 128 c4] := by rw [hW, hz]; exact Blk.new _ _ _
  have hq : QRd W (UF F l b) (.slice (some ⟨z, 0, none⟩) 1 1) lvP := by
    have hbd := HS2.out.bd
    refine ⟨_, 1, rfl, Nat.le_refl _, by decide, fun _ => ⟨z, 0, rfl, ⟨hzb.lt, fun x => by have := hbd z x; have := ha4.size; omega⟩, fun i hi => ?_⟩⟩
    obtain rfl : i = 0 := by have : i < 1 := hi; omega
    refine ⟨A4, c4, hzb.cell 0, hzb.cell 1, s4.rd.far (fun _ _ _ h => haw.block _ h (fun h => h)) haw.size, fun j hj _ x => ?_⟩
    have h1 := hbd j x
    rcases a4.into j (s4.inF j hj) with h | h
    · exact h
    · simp at h; omega
  have HWR := Lib.hid (gwrite_lg l b d 4 12 lvG0 F lv0 (some ⟨z, 0, none⟩) 1 1 lvP W HSW.out lv_ok0 hq (by intro p hp; rw [List.mem_singleton.mp hp]; decide))
  have HW := Lib.hid hW
  have HZ := Lib.hid hz
  clear s4 a4 ha4 haw hzb hq hW hz
  go_wp2_with fail
  rw [← HW.out, ← HZ.out]
  refine HWR.out.mono ?_
  rintro e w5 ⟨rfl, F5, rs5, a5⟩
  rw [show (writeG lv0 4 12 lvG0 lvP).2 = 0 from lv_w]
  have rs5' : Rs w5 F5 d l b 4 12 lvW.1.1 lvW.1.2 := rs5
  have HSY := Lib.hid (gsync_lg l b d 4 12 lvW.1.2 F5 lvW.1.1 w5 rs5')
  have HA5 := Lib.hid a5
  clear rs5 rs5' a5
  go_wp2_with fail
  refine HSY.out.mono ?_
  rintro e w6 ⟨rfl, F6, rs6, a6⟩
  rw [show (syncG lvW.1.1 lvW.1.2).2 = 0 from lv_s]
  have rs6' : Rs w6 F6 d l b 4 12 lvS.1.1 lvS.1.2 := rs6
  have HA6 := Lib.hid (HA5.out.trans a6)
  have HOP2 := Lib.hid (gopen_dk d 12 F6 lvS.1.1 4 w6 rs6'.dk lv_sb1 (by decide) (by decide) (by decide))
  clear rs6 rs6' a6
  go_wp2_with fail
  refine HOP2.out.mono ?_
  intro e w7 h7
  rcases h7 with ⟨hb, -⟩ | ⟨-, ht, -⟩ | ⟨-, -, l2, b2, rfl, rs7, nw7, a7⟩
  · exact absurd (by decide) hb
  · exact absurd ht (by rw [show topE lvS.1.1 (2 + (4 : Int).toNat) = 1 from lv_t1]; decide)
  have rs7' : Rs w7 F6 d l2 b2 4 12 lvS.1.1 lvG1 := rs7
  have HRD := Lib.hid (gread_lg l2 b2 d 4 12 1 lvG1 F6 lvS.1.1 w7 rs7' (by decide) (openS_A _ _ _) (by decide))
  rw [lv_home] at HRD
  have HA7 := Lib.hid a7
  clear rs7 rs7' nw7 a7
  go_wp2_with fail
  refine HRD.out.mono ?_
  rintro e w8 ⟨y, rfl, -, -, r8, -, a8⟩
  have c0 : w8.cell? ⟨y, 0, none⟩ = some (.int .u8 7) := by
    have := r8.at8 (k := 0) (by decide)
    simpa [lv7] using this
  have HA8 := Lib.hid (HA7.out.trans a8)
  clear r8 a8
  go_wp2_with fail
  go_ret
  refine ⟨rfl, ?_⟩
  have h1 := HAW.out
  have h2 := HA6.out
  have h3 := HA8.out
  have hlow : ∀ j, UF F l b j → w.heap.size ≤ j := fun j hj => by
    rcases hj with hj | hj | hj
    · exact HF1.out j hj
    · rw [hj]; exact HN2.out.1
    · rw [hj]; exact HN2.out.2
  refine ⟨h3.os.trans (h2.os.trans h1.os), h3.tape.trans (h2.tape.trans h1.tape), h3.output.trans (h2.output.trans h1.output), Nat.le_trans h1.size (Nat.le_trans h2.size h3.size), fun j hj _ => ?_, fun _ x => x.elim⟩
  rw [h3.block j (Nat.lt_of_lt_of_le hj (Nat.le_trans h1.size h2.size)) (fun x => x), h2.block j (Nat.lt_of_lt_of_le hj h1.size) (fun x => by have := hlow j x; omega), h1.block j hj (fun x => x)]
end Go.Proofs.YtolcnbiaiolcoaaGreat
