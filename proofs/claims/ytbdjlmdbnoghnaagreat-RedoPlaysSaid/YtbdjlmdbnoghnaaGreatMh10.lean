/- Cut: the program's, of a record that may be. -/
import Derived.Test.YtbdjlmdbnoghnaaGreatMh09
namespace Go.Proofs.YtbdjlmdbnoghnaaGreat
open Go.RowKit

def CutRel (W : World) (z n : Nat) (P : Nat → Pc) (t : Value) (wr : World) : Prop := ∃ k : Nat, k ≤ n ∧ t = .int .i64 (k : Int) ∧ CutI W z n P k wr
/-- the bytes of a piece: a front of what is left -/
theorem part_len {l : List Nat} {k : Nat} : ((l.drop (k * 106)).take 106).length = min 106 (l.length - k * 106) := by simp
theorem there5 {w : World} {z o : Nat} (h : w.there z o 5) : ∃ u0 u1 u2 u3 u4, w.cell? ⟨z, o, none⟩ = some u0 ∧ w.cell? ⟨z, o + 1, none⟩ = some u1 ∧ w.cell? ⟨z, o + 2, none⟩ = some u2 ∧ w.cell? ⟨z, o + 3, none⟩ = some u3 ∧ w.cell? ⟨z, o + 4, none⟩ = some u4 ∧
    w.frozen? ⟨z, o, none⟩ = false ∧ w.frozen? ⟨z, o + 1, none⟩ = false ∧ w.frozen? ⟨z, o + 2, none⟩ = false ∧ w.frozen? ⟨z, o + 3, none⟩ = false ∧ w.frozen? ⟨z, o + 4, none⟩ = false := by
  obtain ⟨a0, b0⟩ := h 0 (by decide)
  obtain ⟨a1, b1⟩ := h 1 (by decide)
  obtain ⟨a2, b2⟩ := h 2 (by decide)
  obtain ⟨a3, b3⟩ := h 3 (by decide)
  obtain ⟨a4, b4⟩ := h 4 (by decide)
  obtain ⟨u0, c0⟩ := Option.isSome_iff_exists.1 a0
  obtain ⟨u1, c1⟩ := Option.isSome_iff_exists.1 a1
  obtain ⟨u2, c2⟩ := Option.isSome_iff_exists.1 a2
  obtain ⟨u3, c3⟩ := Option.isSome_iff_exists.1 a3
  obtain ⟨u4, c4⟩ := Option.isSome_iff_exists.1 a4
  exact ⟨u0, u1, u2, u3, u4, c0, c1, c2, c3, c4, b0, b1, b2, b3, b4⟩
theorem cut_close {W w : World} {z n m e c : Nat} {l : List Nat} (hml : m = l.length) (hn : n = needN m) (hE : cutE e c m = 0) (hn100 : n ≤ 100) (h : CutI W z n (pieceAt e c l) n w) :
    CutN W e c l (.returned (.tuple #[.slice (some ⟨z, 0, none⟩) n n, .int .i64 0])) w := by
  subst hml
  refine ⟨_, n, n, by rw [hE], fun G hG => ?_, h.adv.sub (fun _ h => h.elim)⟩
  have h1 := h.prdg hn100 hG
  rw [cutV, if_pos hE, cutP, ← hn]
  exact h1

theorem cut_c (e c : Nat) (l : List Nat) (k : Nat) : (c : Int) + (k : Int) = ((pieceAt e c l k).c : Int) := by show _ = ((c + k : Nat) : Int); omega
theorem cut_new {W w wc : World} {z n k : Nat} {P : Nat → Pc} {Fc : Nat → Prop} {e : TypeId} {size d : Nat} {v : Value} {xs : List Value} (h : CutI W z n P k w) (hc : Sl wc Fc e size v d xs) (ac : Adv Nul w Fc wc) : ∀ b, v.ownBlock = some b → 0 < d → b ≠ z ∧ W.heap.size ≤ b := fun b hb _ => by
  obtain ⟨C, hB, _⟩ := h.blk
  have := hB.lt
  have h2 := h.adv.size
  rcases ac.into b (hc.inF b hb) with h1 | h1
  · exact h1.elim
  · exact ⟨fun e => by omega, by omega⟩

set_option maxRecDepth 3000 in
set_option maxHeartbeats 3200000 in
theorem pcut_ok (e c : Nat) (v : Value) (l : List Nat) (w : World) (hv : Rd w 1 v l.length (l.map u8)) (h0 : cutE e c l.length = 0) :
    Calls Tryz.prog 78 #[.int .u64 (e : Int), .int .u64 (c : Int), v] w (CutN w e c l) := by
  obtain ⟨A, q, rfl, hmq, hqm⟩ := hv.form
  obtain ⟨m, hm⟩ : ∃ m, m = l.length := ⟨_, rfl⟩
  have hcc : e ≤ 16777215 ∧ c ≤ 1099511627775 ∧ needN l.length - 1 ≤ 1099511627775 - c ∧ l.length ≤ 8192 := by
    unfold cutE at h0
    split at h0
    · rename_i h
      split at h0
      · rename_i h'; exact ⟨h.1, h.2.1, h.2.2, h'⟩
      · simp at h0
    · simp at h0
  rw [← hm] at hcc h0 hv hmq ⊢
  obtain ⟨n, hn⟩ : ∃ n, n = needN m := ⟨_, rfl⟩
  rw [← hn] at hcc
  obtain ⟨he, hc, hov, hm8⟩ := hcc
  have hn1 : 1 ≤ n := by rw [hn]; exact needN_pos m
  have hn2 : n ≤ 78 := by rw [hn]; exact needN_le (by decide) (by omega)
  have hnm : m ≤ n * 106 := by rw [hn]; exact needN_ge m
  have hnl : m = 0 → n = 1 := fun h => by rw [hn, h]; rfl
  have hnl2 : 0 < m → (n - 1) * 106 < m := fun h => by rw [hn]; unfold needN; omega
  have hcI : (c : Int) ≤ 1099511627775 := by omega
  have hmI : (m : Int) ≤ 8192 := by omega
  have hn1I : (1 : Int) ≤ (n : Int) := by omega
  have hn2I : (n : Int) ≤ 78 := by omega
  have hovI : (n : Int) - 1 ≤ 1099511627775 - (c : Int) := by omega
  have hmk := made_pieces n (by omega)
  have HST := Lib.hid (And.intro he hc)
  have HM := Lib.hid (show m ≤ 1000000000 by omega)
  have HN := Lib.hid hn
  have HML := Lib.hid hm
  have HV := Lib.hid hv
  have HN1 := Lib.hid hn1
  have HN2 := Lib.hid hn2
  have HNM := Lib.hid hnm
  have HNL := Lib.hid hnl
  have HNL2 := Lib.hid hnl2
  have HOV := Lib.hid hov
  have HE0 := Lib.hid h0
  have HMQ := Lib.hid hmq
  have HQM := Lib.hid hqm
  clear he hc hm hn hv hn1 hn2 hnm hnl hnl2 hov h0 hm8 hmq hqm
  go_enter Tryz.func78, Tryz.ntmps78
  go_wp2_with fail
  refine (stampok e c HST.out.1 HST.out.2 _).mono ?_
  rintro x w1 ⟨rfl, rfl⟩
  go_wp2_with fail
  refine (need_any m _ HM.out).mono ?_
  rintro x w1 ⟨rfl, rfl⟩
  rw [← HN.out]
  go_wp2_with fail
  obtain ⟨z, hz⟩ : ∃ z, z = w.heap.size := ⟨_, rfl⟩
  rw [← hz]
  have hst : CutI w z n (pieceAt e c l) 0 (w.alloc (.cells (madeCells #[.int .u64 0, .int .u64 0, .bool false, .bool false, .slice none 0 0] (n * 5)) 96)) :=
    ⟨⟨_, by rw [hz]; exact Blk.new _ _ _, size_madeCells _ _⟩, fun i hi => absurd hi (by omega), ⟨rfl, rfl, rfl, by simp, fun k hk _ => Below.heap_alloc _ _ _ hk, fun k hk => .inr (by omega)⟩, by omega⟩
  have HSTART := Lib.hid hst
  have HZ := Lib.hid hz
  clear hst hz hmk
  go_loopw [39] (CutRel w z n (pieceAt e c l)) (fun t _ => n - (intOf t).toNat)
  case atStart => exact ⟨0, Nat.zero_le _, rfl, HSTART.out⟩
  case round =>
    obtain ⟨k, hk, rfl, hI⟩ := hrel
    by_cases hlt : k < n
    · have hki : (k : Int) < (n : Int) := by omega
      have hth := hI.there hlt
      have hck : c + k ≤ 1099511627775 := by have := HOV.out; have := HN1.out; omega
      have hckI : (c : Int) + (k : Int) ≤ 1099511627775 := by omega
      have hk78 : (k : Int) ≤ 78 := by omega
      have hzold : ∀ b, (Value.slice A m q).ownBlock = some b → 0 < m → b < w.heap.size := fun b hb hm => by
        obtain ⟨b', o', q', e', hb', _, _⟩ := HV.out.adr hm
        injection e' with e1 _ _
        subst e1
        simp [Value.ownBlock] at hb
        omega
      have hrd := HV.out.far (fun b hb hm hl => hI.adv.block b hl (fun h => h)) hI.adv.size
      have HI := Lib.hid hI
      have HTH := Lib.hid hth
      have HRD := Lib.hid hrd
      have HLT := Lib.hid hlt
      have HCK := Lib.hid hck
      clear hI hth hck hrd hzold hk
      by_cases hm0 : m = 0
      · obtain rfl : n = 1 := HNL.out hm0
        obtain rfl : k = 0 := by omega
        have hl0 : l = [] := List.eq_nil_of_length_eq_zero (by rw [← HML.out]; exact hm0)
        cases A with
        | none =>
          have HR := Lib.hid (show Rd wr 1 (.slice none 0 q) 0 (([] : List Nat).map u8) by rw [← hl0, ← hm0]; exact HRD.out)
          have HP1 := Lib.hid (show true = (pieceAt e c l 0).f from rfl)
          have HP2 := Lib.hid (show true = (pieceAt e c l 0).g by show true = (0 == needN l.length - 1); rw [hl0]; rfl)
          have HP3 := Lib.hid (show ([] : List Nat) = (pieceAt e c l 0).d by show [] = (l.drop 0).take 106; rw [hl0]; rfl)
          subst hm0
          clear hl0
          go_wp2_with (first
            | (go_at_call 107; refine (lclone_any _ 0 _ _ HR.out (u8_one _) (by decide)).mono ?_; rintro x wc ⟨vc, Fc, rfl, hc, ac⟩; obtain ⟨Ac, cc, rfl, _, _⟩ := hc.form0; have hI' := HI.out.step ac; obtain ⟨u0, u1, u2, u3, u4, t0, t1, t2, t3, t4, r0, r1, r2, r3, r4⟩ := there5 (hI'.there (by decide)); have HPUT := Lib.hid (hI'.put (e := e) (cI := (c : Int)) (f := true) (g := true) (by decide) rfl rfl HP1.out HP2.out (by rw [← HP3.out]; rfl) (by rw [← HP3.out]; exact hc.rd) (cut_new HI.out hc ac)); clear hc ac hI'; simp only [Nat.zero_mul, Nat.zero_add] at t0 t1 t2 t3 t4 r0 r1 r2 r3 r4)
            | fail)
          refine ⟨?_, by simp [intOf]⟩
          repeat apply Exists.intro
          exact ⟨(show CutRel w z 1 (pieceAt e c l) (.int .i64 ((1 : Nat) : Int)) _ from ⟨1, Nat.le_refl _, rfl, HPUT.out⟩), rfl⟩
        | some ad =>
          have HR := Lib.hid (show Rd wr 1 (.slice (some ad) 0 q) 0 (([] : List Nat).map u8) by rw [← hl0, ← hm0]; exact HRD.out)
          have HP1 := Lib.hid (show true = (pieceAt e c l 0).f from rfl)
          have HP2 := Lib.hid (show true = (pieceAt e c l 0).g by show true = (0 == needN l.length - 1); rw [hl0]; rfl)
          have HP3 := Lib.hid (show ([] : List Nat) = (pieceAt e c l 0).d by show [] = (l.drop 0).take 106; rw [hl0]; rfl)
          subst hm0
          clear hl0
          go_wp2_with (first
            | (go_at_call 107; refine (lclone_any _ 0 _ _ HR.out (u8_one _) (by decide)).mono ?_; rintro x wc ⟨vc, Fc, rfl, hc, ac⟩; obtain ⟨Ac, cc, rfl, _, _⟩ := hc.form0; have hI' := HI.out.step ac; obtain ⟨u0, u1, u2, u3, u4, t0, t1, t2, t3, t4, r0, r1, r2, r3, r4⟩ := there5 (hI'.there (by decide)); have HPUT := Lib.hid (hI'.put (e := e) (cI := (c : Int)) (f := true) (g := true) (by decide) rfl rfl HP1.out HP2.out (by rw [← HP3.out]; rfl) (by rw [← HP3.out]; exact hc.rd) (cut_new HI.out hc ac)); clear hc ac hI'; simp only [Nat.zero_mul, Nat.zero_add] at t0 t1 t2 t3 t4 r0 r1 r2 r3 r4)
            | fail)
          refine ⟨?_, by simp [intOf]⟩
          repeat apply Exists.intro
          exact ⟨(show CutRel w z 1 (pieceAt e c l) (.int .i64 ((1 : Nat) : Int)) _ from ⟨1, Nat.le_refl _, rfl, HPUT.out⟩), rfl⟩
      · have hmpos : 0 < m := by omega
        obtain ⟨b, o, q', e', hb, _, _⟩ := HV.out.adr hmpos
        injection e' with e1 _ e3
        subst e1 e3
        have hfrom : (n - 1) * 106 < m := HNL2.out hmpos
        have hkm : k * 106 < m := by have := HLT.out; omega
        have hkq : ¬ q = k * 106 := by have := HMQ.out; omega
        have hmqI : (m : Int) ≤ (q : Int) := by have := HMQ.out; omega
        have hkmI : (k : Int) * 106 ≤ (m : Int) := by omega
        have hmul : IntKind.i64.wrap ((k : Int) * 106) = (k : Int) * 106 := by rw [IntKind.wrap_i64]; omega
        have htn : ((k : Int) * 106 + 106).toNat - k * 106 = 106 := by omega
        by_cases hlast : k = n - 1
        · have hgl : ((k : Int) == (n : Int) - 1) = true := by rw [beq_iff_eq]; have := HN1.out; omega
          by_cases hfull : m = k * 106 + 106
          · have hmin : (m : Int) ≤ (k : Int) * 106 + 106 := by omega
            have hmin2 : (k : Int) * 106 + 106 ≤ (m : Int) := by omega
            have hmk : m - k * 106 = 106 := by omega
            clear hfull
            have hpd : (pieceAt e c l k).d.length = 106 := by show ((l.drop (k * 106)).take 106).length = _; rw [part_len, ← HML.out]; omega
            have hr := (HRD.out.sub (k * 106) (106) (q - k * 106) (by omega) (by have := HMQ.out; omega) (by have := HQM.out; omega))
            obtain ⟨f, hf⟩ : ∃ f, f = (k == 0) := ⟨_, rfl⟩
            have hf0 : ((k : Int) == 0) = f := by rw [hf, Bool.eq_iff_iff, beq_iff_eq, beq_iff_eq]; omega
            have HF := Lib.hid hf
            have HR := Lib.hid hr
            have HPD := Lib.hid hpd
            have HPG := Lib.hid (show true = (k == needN l.length - 1) by rw [← HML.out, ← HN.out]; symm; rw [beq_iff_eq]; exact hlast)
            have HD9 := Lib.hid (show 106 ≤ 1000000000 by omega)
            clear hf hr hpd hlast hm0 hmpos hfrom hkm hovI
            go_wp2_with (first
              | (go_at_call 107; refine (lclone_any _ (106) _ _ HR.out (u8_one _) HD9.out).mono ?_; rintro x wc ⟨vc, Fc, rfl, hc, ac⟩; obtain ⟨Ac, cc, rfl, _, _⟩ := hc.form0; have hI' := HI.out.step ac; obtain ⟨u0, u1, u2, u3, u4, t0, t1, t2, t3, t4, r0, r1, r2, r3, r4⟩ := there5 (hI'.there HLT.out); have HPUT := Lib.hid (hI'.put (e := e) (cI := (c : Int) + (k : Int)) (f := f) (g := true) HLT.out rfl (cut_c e c l k) HF.out HPG.out HPD.out.symm hc.rd (cut_new HI.out hc ac)); clear hc ac hI')
              | fail)
            have hlt := HLT.out
            exact ⟨⟨k + 1, by omega, by go_num, HPUT.out⟩, by simp [intOf]; omega⟩
          · have hmin : (m : Int) < (k : Int) * 106 + 106 := by have := HNM.out; have := HN1.out; omega
            clear hfull
            have hpd : (pieceAt e c l k).d.length = m - k * 106 := by show ((l.drop (k * 106)).take 106).length = _; rw [part_len, ← HML.out]; omega
            have hr := (HRD.out.sub (k * 106) (m - k * 106) (q - k * 106) (by omega) (by have := HMQ.out; omega) (by have := HQM.out; omega))
            have hpl : (l.drop (k * 106)).take (m - k * 106) = (l.drop (k * 106)).take 106 := by rw [List.take_of_length_le (by rw [List.length_drop, ← HML.out]; exact Nat.le_refl _), List.take_of_length_le (by rw [List.length_drop, ← HML.out]; omega)]
            rw [hpl] at hr
            clear hpl
            obtain ⟨f, hf⟩ : ∃ f, f = (k == 0) := ⟨_, rfl⟩
            have hf0 : ((k : Int) == 0) = f := by rw [hf, Bool.eq_iff_iff, beq_iff_eq, beq_iff_eq]; omega
            have HF := Lib.hid hf
            have HR := Lib.hid hr
            have HPD := Lib.hid hpd
            have HPG := Lib.hid (show true = (k == needN l.length - 1) by rw [← HML.out, ← HN.out]; symm; rw [beq_iff_eq]; exact hlast)
            have HD9 := Lib.hid (show m - k * 106 ≤ 1000000000 by omega)
            clear hf hr hpd hlast hm0 hmpos hfrom hkm hovI
            go_wp2_with fail
            refine (lclone_any _ (m - k * 106) _ _ HR.out (u8_one _) HD9.out).mono ?_
            rintro x wc ⟨vc, Fc, rfl, hc, ac⟩
            obtain ⟨Ac, cc, rfl, _, _⟩ := hc.form0
            have hI' := HI.out.step ac
            obtain ⟨u0, u1, u2, u3, u4, t0, t1, t2, t3, t4, r0, r1, r2, r3, r4⟩ := there5 (hI'.there HLT.out)
            have HPUT := Lib.hid (hI'.put (e := e) (cI := (c : Int) + (k : Int)) (f := f) (g := true) HLT.out rfl (cut_c e c l k) HF.out HPG.out HPD.out.symm hc.rd (cut_new HI.out hc ac))
            clear hc ac hI'
            go_wp2_with fail
            have hlt := HLT.out
            exact ⟨⟨k + 1, by omega, by go_num, HPUT.out⟩, by simp [intOf]; omega⟩
        · have hmin : (k : Int) * 106 + 106 < (m : Int) := by have := HLT.out; omega
          have hgl : ((k : Int) == (n : Int) - 1) = false := by rw [beq_eq_false_iff_ne]; omega
          have hpd : (pieceAt e c l k).d.length = 106 := by show ((l.drop (k * 106)).take 106).length = _; rw [part_len, ← HML.out]; omega
          have hr := (HRD.out.sub (k * 106) (106) (q - k * 106) (by omega) (by have := HMQ.out; omega) (by have := HQM.out; omega))
          obtain ⟨f, hf⟩ : ∃ f, f = (k == 0) := ⟨_, rfl⟩
          have hf0 : ((k : Int) == 0) = f := by rw [hf, Bool.eq_iff_iff, beq_iff_eq, beq_iff_eq]; omega
          have HF := Lib.hid hf
          have HR := Lib.hid hr
          have HPD := Lib.hid hpd
          have HPG := Lib.hid (show false = (k == needN l.length - 1) by rw [← HML.out, ← HN.out]; symm; rw [beq_eq_false_iff_ne]; exact hlast)
          have HD9 := Lib.hid (show 106 ≤ 1000000000 by omega)
          clear hf hr hpd hlast hm0 hmpos hfrom hkm hovI
          go_wp2_with (first
            | (go_at_call 107; refine (lclone_any _ (106) _ _ HR.out (u8_one _) HD9.out).mono ?_; rintro x wc ⟨vc, Fc, rfl, hc, ac⟩; obtain ⟨Ac, cc, rfl, _, _⟩ := hc.form0; have hI' := HI.out.step ac; obtain ⟨u0, u1, u2, u3, u4, t0, t1, t2, t3, t4, r0, r1, r2, r3, r4⟩ := there5 (hI'.there HLT.out); have HPUT := Lib.hid (hI'.put (e := e) (cI := (c : Int) + (k : Int)) (f := f) (g := false) HLT.out rfl (cut_c e c l k) HF.out HPG.out HPD.out.symm hc.rd (cut_new HI.out hc ac)); clear hc ac hI')
            | fail)
          have hlt := HLT.out
          exact ⟨⟨k + 1, by omega, by go_num, HPUT.out⟩, by simp [intOf]; omega⟩
    · obtain rfl : k = n := by omega
      have HFIN := Lib.hid (cut_close HML.out HN.out HE0.out (by have := HN2.out; omega) hI)
      clear hI hk hlt
      go_wp2_with fail
      go_ret2
      exact HFIN.out
end Go.Proofs.YtbdjlmdbnoghnaaGreat
