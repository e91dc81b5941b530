/- A head's sector: the document's. A sector's head, or that it is none: the document's. -/
import Derived.Test.YtbdjlmdbnoghnaaGreatMh12
import Derived.Test.YtbdjlmdbnoghnaaGreatMh28
import Derived.Test.YtbdjlmdbnoghnaaGreatMh31
namespace Go.Proofs.YtbdjlmdbnoghnaaGreat
open Go.RowKit

def RsR (w : World) (e : Nat) (h : Hd) (x : Ending) (w' : World) : Prop :=
  ∃ A m k F, x = .returned (.tuple #[.slice A m k, .bool (decide (hOk e h))]) ∧ Adv Nul w F w' ∧ (hOk e h → m = 128 ∧ Sl w' F 5 1 (.slice A 128 k) 128 ((hSec e h).map u8)) ∧ (¬ hOk e h → A = none ∧ m = 0 ∧ k = 0)
theorem sec_data {w : World} {F : Nat → Prop} {v : Value} {t f : Nat} (h : Sl w F 5 1 v (qn (40 + 24)) ((rowOf (t * 2 ^ 24 + f) (40 + 24)).map u8)) : ∀ g, Rd w 1 v (hdata ⟨g, t, f⟩).length ((hdata ⟨g, t, f⟩).map u8) := fun g => by
  have er : rowOf (t * 2 ^ 24 + f) (40 + 24) = hdata ⟨g, t, f⟩ := by rw [show 40 + 24 = 64 from rfl, row64]; rfl
  rw [er] at h
  rw [hdata_length]
  exact h.rd

set_option maxRecDepth 3000 in
set_option maxHeartbeats 3200000 in
theorem rsector_any (e : Nat) (h : Hd) (w : World) (ht : h.t < 18446744073709551616) (hf : h.f < 18446744073709551616) :
    Calls Tryz.prog 91 #[.int .u64 (e : Int), .agg #[.int .u64 (h.g : Int), .int .u64 (h.t : Int), .int .u64 (h.f : Int)]] w (RsR w e h) := by
  obtain ⟨g, t, f⟩ := h
  simp only at ht hf ⊢
  obtain ⟨y, hy⟩ : ∃ y, y = w.heap.size := ⟨_, rfl⟩
  obtain ⟨V, hV⟩ : ∃ V, V = w.alloc (.cells #[.int .u64 (g : Int), .int .u64 (t : Int), .int .u64 (f : Int)] 76) := ⟨_, rfl⟩
  have HY := Lib.hid (show Blk V y 76 #[.int .u64 (g : Int), .int .u64 (t : Int), .int .u64 (f : Int)] by rw [hV, hy]; exact Blk.new _ _ _)
  have HA := Lib.hid (show Adv Nul w Nul V by rw [hV]; exact (Adv.refl _ _).alloc _)
  have HV := Lib.hid hV
  have HYY := Lib.hid hy
  have K0 := Lib.hid (Blk.three (w := V.drew) HY.out)
  have hf40 : ∀ w, Calls Tryz.prog 115 #[.int .u64 (t : Int), .int .i64 40] w fun x w' => x = .returned (.bool (decide (t < 2 ^ 40))) ∧ w = w' := fun w => by
    have k := fits_any t 40 w ht
    have e : decide (0 ≤ (40 : Int) ∧ (40 : Int) ≤ 64 ∧ t < 2 ^ (40 : Int).toNat) = decide (t < 2 ^ 40) := decide_eq_decide.mpr ⟨fun h => h.2.2, fun h => ⟨by decide, by decide, h⟩⟩
    rw [e] at k
    exact k
  have hf24 : ∀ w, Calls Tryz.prog 115 #[.int .u64 (f : Int), .int .i64 24] w fun x w' => x = .returned (.bool (decide (f < 2 ^ 24))) ∧ w = w' := fun w => by
    have k := fits_any f 24 w hf
    have e : decide (0 ≤ (24 : Int) ∧ (24 : Int) ≤ 64 ∧ f < 2 ^ (24 : Int).toNat) = decide (f < 2 ^ 24) := decide_eq_decide.mpr ⟨fun h => h.2.2, fun h => ⟨by decide, by decide, h⟩⟩
    rw [e] at k
    exact k
  have HF40 := Lib.hid hf40
  have HF24 := Lib.hid hf24
  have hno : ¬ hOk e ⟨g, t, f⟩ → ∀ w', Adv Nul w Nul w' → RsR w e ⟨g, t, f⟩ (.returned (.tuple #[.slice none 0 0, .bool false])) w' := fun hn w' ha => ⟨none, 0, 0, Nul, by rw [decide_eq_false hn], ha, fun o => absurd o hn, fun _ => ⟨rfl, rfl, rfl⟩⟩
  have HNO := Lib.hid hno
  obtain ⟨s0, s1, s2⟩ := Blk.three HY.out
  clear hV hy ht hf hf40 hf24 hno
  go_enter Tryz.func91, Tryz.ntmps91
  go_upto_region 1 with (fail)
  rw [← HV.out, ← HYY.out]
  by_cases ht : t < 2 ^ 40
  · have HT := Lib.hid ht
    have HDT := Lib.hid (decide_eq_true ht)
    clear ht
    by_cases hf : f < 2 ^ 24
    · have HF := Lib.hid hf
      have HDF := Lib.hid (decide_eq_true hf)
      have hseal : ∀ v w, (∀ g, Rd w 1 v (hdata ⟨g, t, f⟩).length ((hdata ⟨g, t, f⟩).map u8)) → Calls Tryz.prog 51 #[.agg #[.int .u64 (e : Int), .int .u64 (g : Int), .bool true, .bool true, v]] w (SealO w (hPc e ⟨g, t, f⟩)) := fun v w hv => rseal_any (hPc e ⟨g, t, f⟩) v w (hv g) (hdata_lt _)
      have HSEAL := Lib.hid hseal
      clear hf hseal
      go_wp2_with fail
      refine (HF40.out _).mono ?_
      rintro x w9 ⟨rfl, rfl⟩
      rw [HDT.out]
      go_wp2_with fail
      refine (HF24.out _).mono ?_
      rintro x w9 ⟨rfl, rfl⟩
      rw [HDF.out]
      go_upto_region 3 with (fail)
      refine rstart (S := (fun w' => w'.cell? ⟨y, 0, none⟩ = some (.int .u64 (g : Int)) ∧ w'.cell? ⟨y, 1, none⟩ = some (.int .u64 (t : Int)) ∧ w'.cell? ⟨y, 2, none⟩ = some (.int .u64 (f : Int)))) (by first | with_reducible exact K6.out | with_reducible exact K5.out | with_reducible exact K4.out | with_reducible exact K3.out | with_reducible exact K2.out | with_reducible exact K1.out | with_reducible exact K0.out) (fun hH => ?_)
      refine tk (i := 0) (oi := ⟨some 19, .fieldAddr 76 (.tmp 3) 1, 0, "ref.go:21", #[], none⟩) hH.out (by rintro w ⟨s0, s1, s2⟩; go_simp <;> with_reducible rfl) ?_
      simp only [Act.put, sA, sB, sC]
      refine tk (i := 1) (oi := ⟨some 20, .load 49 (.tmp 19), 49, "ref.go:21", #[⟨0, .data⟩], none⟩) hH.out (by rintro w ⟨s0, s1, s2⟩; go_simp <;> with_reducible rfl) ?_
      simp only [Act.put, sA, sB, sC]
      refine tk (i := 3) (oi := ⟨some 22, .fieldAddr 76 (.tmp 3) 2, 0, "ref.go:21", #[], none⟩) hH.out (by rintro w ⟨s0, s1, s2⟩; go_simp <;> with_reducible rfl) ?_
      simp only [Act.put, sA, sB, sC]
      refine tk (i := 4) (oi := ⟨some 23, .load 49 (.tmp 22), 49, "ref.go:21", #[⟨3, .data⟩], none⟩) hH.out (by rintro w ⟨s0, s1, s2⟩; go_simp <;> with_reducible rfl) ?_
      simp only [Act.put, sA, sB, sC]
      refine rdy (i := 2) (oi := ⟨some 21, .call ⟨.value (.func 82), #[.tmp 20, .const (Go.Value.int Go.IntKind.i64 40)], #[49, 3]⟩, 53, "ref.go:21", #[⟨1, .data⟩], none⟩) (fun K hK => ?_)
      go_simp
      refine (bits_any t 40 _ HT.out (by decide)).mono ?_
      rintro x w1 ⟨v1, rfl, F1, l1, s1, bl1, a1⟩
      obtain ⟨A1, q1, rfl, _, _⟩ := s1.form0
      have HS1 := Lib.hid s1
      have HB1 := Lib.hid bl1
      have HA1 := Lib.hid ((Adv.refl Nul V).drew.trans a1)
      have K1 := Lib.hid (Blk.three (HY.out.keep (HA1.out.block y HY.out.lt (fun h => h))))
      clear s1 bl1 a1
      go_wp2_with fail
      refine hK.out _ _ (by first | with_reducible exact K6.out | with_reducible exact K5.out | with_reducible exact K4.out | with_reducible exact K3.out | with_reducible exact K2.out | with_reducible exact K1.out | with_reducible exact K0.out) (fun hHeld => ?_)
      replace hH := Lib.hid hHeld
      clear hK K hHeld
      try simp only [Act.put, sA, sB, sC]
      refine rdy (i := 5) (oi := ⟨some 24, .call ⟨.value (.func 82), #[.tmp 23, .const (Go.Value.int Go.IntKind.i64 24)], #[49, 3]⟩, 53, "ref.go:21", #[⟨4, .data⟩, ⟨2, .chain⟩], none⟩) (fun K hK => ?_)
      go_simp
      refine (bits_any f 24 _ HF.out (by decide)).mono ?_
      rintro x w2 ⟨v2, rfl, F2, l2, s2, bl2, a2⟩
      obtain ⟨A2, q2, rfl, _, _⟩ := s2.form0
      have HS2 := Lib.hid s2
      have HS1' := Lib.hid (HS1.out.far a2 (fun _ h _ => h))
      have HB2 := Lib.hid bl2
      have HA2 := Lib.hid (HA1.out.over a2)
      have K2 := Lib.hid (Blk.three (HY.out.keep (HA2.out.block y HY.out.lt (fun h => h))))
      clear s2 bl2 a2
      go_wp2_with fail
      refine hK.out _ _ (by first | with_reducible exact K6.out | with_reducible exact K5.out | with_reducible exact K4.out | with_reducible exact K3.out | with_reducible exact K2.out | with_reducible exact K1.out | with_reducible exact K0.out) (fun hHeld => ?_)
      replace hH := Lib.hid hHeld
      clear hK K hHeld
      try simp only [Act.put, sA, sB, sC]
      refine rdy (i := 6) (oi := ⟨some 25, .call ⟨.builtin .append, #[.tmp 21, .tmp 24], #[53, 53]⟩, 53, "ref.go:21", #[⟨2, .data⟩, ⟨5, .data⟩, ⟨5, .chain⟩], none⟩) (fun K hK => ?_)
      refine step_append_rd rfl (.tmp 21) (.tmp 24) rfl rfl rfl HS1'.out.own HS2.out.rd (u8_one _) (by decide) ?_
      intro v' w3 hown hg hat
      obtain ⟨s3, _, a3⟩ := own_grown HS1'.out HA2.out hown hg hat (Nat.le_refl _)
      rw [← List.map_append] at s3
      obtain ⟨A3, q3, rfl, _, _⟩ := s3.form0
      have HS3 := Lib.hid s3
      have HA3 := Lib.hid a3
      have K3 := Lib.hid (Blk.three (HY.out.keep (HA3.out.block y HY.out.lt (fun h => h))))
      clear s3 a3 hown hg hat
      refine hK.out _ _ (by first | with_reducible exact K6.out | with_reducible exact K5.out | with_reducible exact K4.out | with_reducible exact K3.out | with_reducible exact K2.out | with_reducible exact K1.out | with_reducible exact K0.out) (fun hHeld => ?_)
      replace hH := Lib.hid hHeld
      clear hK K hHeld
      try simp only [Act.put, sA, sB, sC]
      refine tk (i := 7) (oi := ⟨some 6, .assign (.tmp 25), 53, "ref.go:21", #[⟨6, .data⟩, ⟨6, .chain⟩, ⟨0, .phase⟩, ⟨1, .phase⟩, ⟨2, .phase⟩, ⟨3, .phase⟩, ⟨4, .phase⟩, ⟨5, .phase⟩, ⟨6, .phase⟩], none⟩) hH.out (by rintro w ⟨s0, s1, s2⟩; go_simp <;> with_reducible rfl) ?_
      simp only [Act.put, sA, sB, sC]
      refine wpAnyH_done (by kernel_rfl) ?_ _
      have K4 := Lib.hid (Blk.three (w := w3.drew) (HY.out.keep (HA3.out.block y HY.out.lt (fun h => h))))
      obtain ⟨s0, s1, s2⟩ := K3.out
      go_upto_region 4 with (fail)
      refine rstart (S := (fun w' => w'.cell? ⟨y, 0, none⟩ = some (.int .u64 (g : Int)) ∧ w'.cell? ⟨y, 1, none⟩ = some (.int .u64 (t : Int)) ∧ w'.cell? ⟨y, 2, none⟩ = some (.int .u64 (f : Int)))) (by first | with_reducible exact K6.out | with_reducible exact K5.out | with_reducible exact K4.out | with_reducible exact K3.out | with_reducible exact K2.out | with_reducible exact K1.out | with_reducible exact K0.out) (fun hH => ?_)
      refine tk (i := 0) (oi := ⟨some 27, .move (.tmp 0), 49, "ref.go:22", #[], none⟩) hH.out (by rintro w ⟨s0, s1, s2⟩; go_simp <;> with_reducible rfl) ?_
      simp only [Act.put, sA, sB, sC]
      refine tk (i := 1) (oi := ⟨some 28, .fieldAddr 76 (.tmp 3) 0, 0, "ref.go:22", #[], none⟩) hH.out (by rintro w ⟨s0, s1, s2⟩; go_simp <;> with_reducible rfl) ?_
      simp only [Act.put, sA, sB, sC]
      refine tk (i := 2) (oi := ⟨some 29, .load 49 (.tmp 28), 49, "ref.go:22", #[⟨1, .data⟩], none⟩) hH.out (by rintro w ⟨s0, s1, s2⟩; go_simp <;> with_reducible rfl) ?_
      simp only [Act.put, sA, sB, sC]
      refine tk (i := 3) (oi := ⟨some 30, .move (.tmp 6), 53, "ref.go:22", #[], none⟩) hH.out (by rintro w ⟨s0, s1, s2⟩; go_simp <;> with_reducible rfl) ?_
      simp only [Act.put, sA, sB, sC]
      refine rdy (i := 4) (oi := ⟨some 31, .call ⟨.value (.func 83), #[.tmp 30], #[53]⟩, 53, "ref.go:22", #[⟨3, .data⟩], none⟩) (fun K hK => ?_)
      go_simp
      refine (bytes_any _ _ _ _ _ _ HS3.out.drew (HB1.out.append HB2.out) (by decide)).mono ?_
      rintro x w4 ⟨v4, rfl, F4, s4, a4⟩
      obtain ⟨A4, q4, rfl, _, _⟩ := s4.form0
      have HA4 := Lib.hid (((HA3.out.sub (G := Nul) (fun _ h => h.elim)).drew).trans a4)
      have K5 := Lib.hid (Blk.three (HY.out.keep (HA4.out.block y HY.out.lt (fun h => h))))
      have HS4 := Lib.hid (sec_data s4)
      clear s4 a4
      go_wp2_with fail
      refine hK.out _ _ (by first | with_reducible exact K6.out | with_reducible exact K5.out | with_reducible exact K4.out | with_reducible exact K3.out | with_reducible exact K2.out | with_reducible exact K1.out | with_reducible exact K0.out) (fun hHeld => ?_)
      replace hH := Lib.hid hHeld
      clear hK K hHeld
      try simp only [Act.put, sA, sB, sC]
      refine tk (i := 5) (oi := ⟨some 32, .build 87 #[(0, .tmp 27), (1, .tmp 29), (2, .const (Go.Value.bool true)), (3, .const (Go.Value.bool true)), (4, .tmp 31)], 87, "ref.go:22", #[⟨0, .data⟩, ⟨2, .data⟩, ⟨4, .data⟩], none⟩) hH.out (by rintro w ⟨s0, s1, s2⟩; go_simp <;> with_reducible rfl) ?_
      simp only [Act.put, sA, sB, sC]
      refine rdy (i := 6) (oi := ⟨some 33, .call ⟨.value (.func 51), #[.tmp 32], #[87]⟩, 81, "ref.go:22", #[⟨5, .data⟩, ⟨4, .chain⟩], none⟩) (fun K hK => ?_)
      go_simp
      refine (HSEAL.out _ _ HS4.out).mono ?_
      intro x w5 h5
      obtain ⟨A5, m5, k5, F5, rfl, a5, p5, n5⟩ := h5
      obtain ⟨E5, hE5⟩ : ∃ E, E = sealE (hPc e ⟨g, t, f⟩) := ⟨_, rfl⟩
      rw [← hE5]
      have HE5 := Lib.hid hE5
      have HP5 := Lib.hid p5
      have HN5 := Lib.hid n5
      have HA5 := Lib.hid a5
      have K6 := Lib.hid (Blk.three (HY.out.keep (((HA4.out.sub (G := Nul) (fun _ h => h.elim)).trans a5).block y HY.out.lt (fun h => h))))
      clear a5 p5 n5 hE5
      go_wp2_with fail
      refine hK.out _ _ (by first | with_reducible exact K6.out | with_reducible exact K5.out | with_reducible exact K4.out | with_reducible exact K3.out | with_reducible exact K2.out | with_reducible exact K1.out | with_reducible exact K0.out) (fun hHeld => ?_)
      replace hH := Lib.hid hHeld
      clear hK K hHeld
      try simp only [Act.put, sA, sB, sC]
      refine tk (i := 7) (oi := ⟨some 26, .move (.tmp 33), 81, "ref.go:22", #[⟨6, .data⟩], none⟩) hH.out (by rintro w ⟨s0, s1, s2⟩; go_simp <;> with_reducible rfl) ?_
      simp only [Act.put, sA, sB, sC]
      refine tk (i := 8) (oi := ⟨some 34, .extract (.tmp 26) 0, 53, "ref.go:22", #[⟨7, .data⟩], none⟩) hH.out (by rintro w ⟨s0, s1, s2⟩; go_simp <;> with_reducible rfl) ?_
      simp only [Act.put, sA, sB, sC]
      refine tk (i := 9) (oi := ⟨some 35, .extract (.tmp 26) 1, 3, "ref.go:22", #[⟨7, .data⟩, { on := 10, ground := Go.Ground.gcOnly Go.Departure.lateStores }], none⟩) hH.out (by rintro w ⟨s0, s1, s2⟩; go_simp <;> with_reducible rfl) ?_
      simp only [Act.put, sA, sB, sC]
      refine tk (i := 10) (oi := ⟨some 7, .assign (.tmp 34), 53, "ref.go:22", #[⟨8, .data⟩, ⟨6, .chain⟩, ⟨0, .phase⟩, ⟨1, .phase⟩, ⟨2, .phase⟩, ⟨3, .phase⟩, ⟨4, .phase⟩, ⟨5, .phase⟩, ⟨6, .phase⟩, ⟨7, .phase⟩, ⟨8, .phase⟩, { on := 9, ground := Go.Ground.textOnly Go.Departure.lateStores }], none⟩) hH.out (by rintro w ⟨s0, s1, s2⟩; go_simp <;> with_reducible rfl) ?_
      simp only [Act.put, sA, sB, sC]
      refine tk (i := 11) (oi := ⟨some 8, .assign (.tmp 35), 3, "ref.go:22", #[⟨9, .data⟩, ⟨10, .chain⟩, ⟨0, .phase⟩, ⟨1, .phase⟩, ⟨2, .phase⟩, ⟨3, .phase⟩, ⟨4, .phase⟩, ⟨5, .phase⟩, ⟨6, .phase⟩, ⟨7, .phase⟩, ⟨8, .phase⟩, ⟨9, .phase⟩, ⟨10, .phase⟩], none⟩) hH.out (by rintro w ⟨s0, s1, s2⟩; go_simp <;> with_reducible rfl) ?_
      simp only [Act.put, sA, sB, sC]
      refine wpAnyH_done (by kernel_rfl) ?_ _
      have hh : hOk e ⟨g, t, f⟩ ↔ (hPc e ⟨g, t, f⟩).ok := ⟨hPc_ok, fun o => ⟨⟨o.1, o.2.1⟩, HT.out, HF.out⟩⟩
      obtain ⟨B, hB⟩ : ∃ B, B = decide (hOk e ⟨g, t, f⟩) := ⟨_, rfl⟩
      have hEB : (E5 == 0) = B := by
        rw [hB, HE5.out, sealE]
        by_cases o : hOk e ⟨g, t, f⟩
        · rw [if_pos (hh.mp o), decide_eq_true o]; rfl
        · rw [if_neg (fun k => o (hh.mpr k)), decide_eq_false o]; rfl
      have hfin : RsR w e ⟨g, t, f⟩ (.returned (.tuple #[.slice A5 m5 k5, .bool B])) w5 := by
        refine ⟨A5, m5, k5, F5, by rw [hB], (HA.out.trans (HA4.out.sub (fun _ h => h.elim))).trans HA5.out, fun o => HP5.out (hh.mp o), fun o => ?_⟩
        obtain ⟨q1, q2, q3⟩ := HN5.out (fun k => o (hh.mpr k))
        exact ⟨q1, q2, q3⟩
      have HFIN := Lib.hid hfin
      clear hfin hh hB
      go_wp2_with fail
      exact bodyPost_ret (v := .tuple #[.slice A5 m5 k5, .bool B]) (by simp [results, Tryz.results91, go_sem]) rfl HFIN.out
    · have HF := Lib.hid hf
      have HDF := Lib.hid (decide_eq_false hf)
      clear hf
      go_wp2_with fail
      refine (HF40.out _).mono ?_
      rintro x w9 ⟨rfl, rfl⟩
      rw [HDT.out]
      go_wp2_with fail
      refine (HF24.out _).mono ?_
      rintro x w9 ⟨rfl, rfl⟩
      rw [HDF.out]
      go_wp2_with fail
      exact bodyPost_ret (v := .tuple #[.slice none 0 0, .bool false]) (by simp [results, Tryz.results91, go_sem]) rfl (HNO.out (fun o => HF.out o.2.2) _ HA.out)
  · have HT := Lib.hid ht
    have HDT := Lib.hid (decide_eq_false ht)
    clear ht
    go_wp2_with fail
    refine (HF40.out _).mono ?_
    rintro x w9 ⟨rfl, rfl⟩
    rw [HDT.out]
    go_wp2_with fail
    exact bodyPost_ret (v := .tuple #[.slice none 0 0, .bool false]) (by simp [results, Tryz.results91, go_sem]) rfl (HNO.out (fun o => HT.out o.2.1) _ HA.out)
end Go.Proofs.YtbdjlmdbnoghnaaGreat
namespace Go.Proofs.YtbdjlmdbnoghnaaGreat
open Go.RowKit

set_option maxRecDepth 3000 in
set_option maxHeartbeats 3200000 in
theorem rone_any (v : Value) (n : Nat) (l : List Nat) (odd : Nat) (w : World) (h : Rd w 1 v n (l.map u8)) (hl : ∀ x ∈ l, x < 256) : Calls Tryz.prog 70 #[v, .int .u64 (odd : Int)] w (OneR w (unO l odd)) := by
  obtain ⟨A0, c0, rfl, _, _⟩ := h.form
  obtain ⟨z, hz⟩ : ∃ z, z = w.heap.size := ⟨_, rfl⟩
  obtain ⟨V, hV⟩ : ∃ V, V = w.alloc (.cells #[.int .u64 0, .int .u64 0, .int .u64 0] 76) := ⟨_, rfl⟩
  have HZ := Lib.hid (show Blk V z 76 (h3 0 0 0) by rw [hV, hz]; exact Blk.new _ _ _)
  have HA := Lib.hid (show Adv Nul w Nul V by rw [hV]; exact (Adv.refl _ _).alloc _)
  have HR := Lib.hid (show Rd V 1 (.slice A0 n c0) n (l.map u8) by rw [hV]; exact h.up _)
  have HL := Lib.hid hl
  have HV := Lib.hid hV
  have HZZ := Lib.hid hz
  clear h hl hV hz
  go_enter Tryz.func70, Tryz.ntmps70
  go_wp2_with fail
  rw [← HV.out, ← HZZ.out]
  refine (runseal_any _ n l _ HR.out HL.out).mono ?_
  intro x w1 h
  obtain ⟨A, k, F1, rfl, s1, t1⟩ := h
  obtain ⟨p, hp⟩ : ∃ p, p = unsealP l := ⟨_, rfl⟩
  obtain ⟨E, hE⟩ : ∃ E, E = unsealE l := ⟨_, rfl⟩
  rw [← hp, ← hE]
  rw [← hp] at s1
  obtain ⟨pe, pn, pf, pg, D⟩ := p
  obtain ⟨d, hd⟩ : ∃ d, d = D.length := ⟨_, rfl⟩
  simp only [← hd] at s1 ⊢
  obtain ⟨y, hy⟩ : ∃ y, y = w1.heap.size := ⟨_, rfl⟩
  obtain ⟨W, hW⟩ : ∃ W, W = w1.alloc (.cells #[.int .u64 (pe : Int), .int .u64 (pn : Int), .bool pf, .bool pg, .slice A d k] 87) := ⟨_, rfl⟩
  have HY := Lib.hid (show Blk W y 87 #[.int .u64 (pe : Int), .int .u64 (pn : Int), .bool pf, .bool pg, .slice A d k] by rw [hW, hy]; exact Blk.new _ _ _)
  have HT := Lib.hid (show Adv Nul V Nul W by rw [hW]; exact (t1.sub (fun _ h => h.elim)).alloc _)
  have HZ1 := Lib.hid (HZ.out.keep (HT.out.block z HZ.out.lt (fun h => h)))
  have HS := Lib.hid s1
  have HYZ := Lib.hid (show y ≠ z by have := HZ.out.lt; have := t1.size; omega)
  have HSD := Lib.hid (show Rd W 1 (.slice A d k) d (D.map u8) by rw [hW]; exact s1.rd.up _)
  have HP := Lib.hid hp
  have HE := Lib.hid hE
  have HD := Lib.hid hd
  have HW := Lib.hid hW
  have HYY := Lib.hid hy
  have HLZ := Lib.hid (show w.heap.size ≤ z by rw [HZZ.out]; exact Nat.le_refl _)
  have hno : unO l odd = none → OneR w (unO l odd) (.returned (.tuple #[.agg #[.int .u64 0, .int .u64 0, .int .u64 0], .bool false])) (W.setCells z 0 (h3 0 0 0).toList) := fun hn => by
    rw [hn]
    exact ⟨rfl, Adv.lsetCells _ 0 _ (HA.out.trans HT.out) (.inr HLZ.out)⟩
  have HNO := Lib.hid hno
  clear s1 t1 hp hE hd hy hW hno
  go_upto_region 2 with (fail)
  rw [← HW.out, ← HYY.out]
  obtain ⟨c0, c1, c2, c3, c4⟩ := HY.out.five
  by_cases hw : Whole l
  · have hp' : (⟨pe, pn, pf, pg, D⟩ : Pc) = dec l := by rw [HP.out, unsealP, if_pos hw]
    obtain rfl : E = 0 := by rw [HE.out, unsealE, if_pos hw]
    have HDEC := Lib.hid hp'
    have HWH := Lib.hid hw
    have hl8 : ∀ x ∈ D, x < 256 := by
      have e : D = (dec l).d := congrArg Pc.d hp'
      rw [e]
      exact fun x hx => HL.out x (List.mem_of_mem_drop (List.mem_of_mem_take hx))
    have HL8 := Lib.hid hl8
    clear hw hp' hl8
    cases pf with
    | false =>
      go_wp2_with (first
        | (refine op_store3 sizeRHead rfl (.tmp 4) (.tmp 38) rfl z _ (h3 0 0 0) HZ1.out rfl rfl (h3_one _ _ _) rfl rfl ?_)
        | fail)
      obtain ⟨hz0, hz1, hz2⟩ := (HZ1.out.putAll (D := h3 0 0 0) rfl).three
      exact bodyPost_ret (v := .tuple #[.agg #[.int .u64 0, .int .u64 0, .int .u64 0], .bool false]) (by simp [results, Tryz.results70, go_sem, hz0, hz1, hz2]) rfl (HNO.out (unO_none (by rw [unHd, ← HDEC.out]; exact if_neg (fun h => by simpa using h.2.1))))
    | true =>
    cases pg with
    | false =>
      go_wp2_with (first
        | (refine op_store3 sizeRHead rfl (.tmp 4) (.tmp 38) rfl z _ (h3 0 0 0) HZ1.out rfl rfl (h3_one _ _ _) rfl rfl ?_)
        | fail)
      obtain ⟨hz0, hz1, hz2⟩ := (HZ1.out.putAll (D := h3 0 0 0) rfl).three
      exact bodyPost_ret (v := .tuple #[.agg #[.int .u64 0, .int .u64 0, .int .u64 0], .bool false]) (by simp [results, Tryz.results70, go_sem, hz0, hz1, hz2]) rfl (HNO.out (unO_none (by rw [unHd, ← HDEC.out]; exact if_neg (fun h => by simpa using h.2.2.1))))
    | true =>
    obtain ⟨r, hr⟩ : ∃ r, r = pn % 2 := ⟨_, rfl⟩
    have hr0 : (pn : Int).tmod 2 = (r : Int) := by rw [hr]; exact rfl
    have hr1 : (pn : Int) % 2 = (r : Int) := by rw [hr]; rfl
    have HRR := Lib.hid hr
    clear hr
    by_cases ho : r = odd
    · subst ho
      by_cases h8 : d = 8
      · subst h8
        obtain ⟨u, k', e1, hFu, hk8⟩ := HS.out.form (by decide)
        injection e1 with e1 e2 e3
        subst e1 e3
        clear e2 hFu
        have hk5 : (k = 5) = False := eq_false (by omega)
        have hk5' : 5 ≤ k := by omega
        have hk5i : (5 : Int) ≤ (k : Int) := by omega
        have hr5 : Rd W.drew 1 (.slice (some ⟨u, 0, none⟩) 5 k) 5 ((D.take 5).map u8) := by
          have h := HSD.out.sub 0 5 k (by decide) hk5' (by obtain ⟨_, _, e, _, hm⟩ := HSD.out.form; injection e with _ _ e; omega)
          exact h
        have hr3 : Rd W.drew 1 (.slice (some ⟨u, 5, none⟩) 3 (k - 5)) 3 ((D.drop 5).map u8) := by
          have h := HSD.out.sub 5 3 (k - 5) (by decide) (by omega) (by obtain ⟨_, _, e, _, hm⟩ := HSD.out.form; injection e with _ _ e; omega)
          rw [List.take_of_length_le (by rw [List.length_drop, ← HD.out]; decide), Nat.zero_add] at h
          exact h
        have h5 := val5 HD.out.symm HL8.out
        obtain ⟨x1, hx1⟩ : ∃ x, x = val (D.take 5) := ⟨_, rfl⟩
        obtain ⟨x2, hx2⟩ : ∃ x, x = val (D.drop 5) := ⟨_, rfl⟩
        have hv5 : ∀ w, Rd w 1 (.slice (some ⟨u, 0, none⟩) 5 k) 5 ((D.take 5).map u8) → Calls Tryz.prog 33 #[.slice (some ⟨u, 0, none⟩) 5 k] w fun e w' => e = .returned (.int .u64 (x1 : Int)) ∧ w = w' := fun w hw => by
          rw [hx1]
          exact rvalue_any _ 5 (D.take 5) w hw (by decide) (fun x hx => HL8.out x (List.mem_of_mem_take hx))
        have hv3 : ∀ w, Rd w 1 (.slice (some ⟨u, 5, none⟩) 3 (k - 5)) 3 ((D.drop 5).map u8) → Calls Tryz.prog 33 #[.slice (some ⟨u, 5, none⟩) 3 (k - 5)] w fun e w' => e = .returned (.int .u64 (x2 : Int)) ∧ w = w' := fun w hw => by
          rw [hx2]
          exact rvalue_any _ 3 (D.drop 5) w hw (by decide) (fun x hx => HL8.out x (List.mem_of_mem_drop hx))
        have hyes : unO l r = some ⟨pn, x1, x2⟩ := unO_yes (by rw [unHd, ← HDEC.out, if_pos ⟨HWH.out, rfl, rfl, HD.out.symm⟩, hx1, hx2, h5.1, h5.2]) HRR.out.symm
        have HV5 := Lib.hid hv5
        have HV3 := Lib.hid hv3
        have HR5 := Lib.hid hr5
        have HR3 := Lib.hid hr3
        have HYES := Lib.hid hyes
        have HZD := Lib.hid (show Blk W.drew z 76 (h3 0 0 0) from HZ1.out)
        have K1 := Lib.hid (show W.drew.cell? ⟨y, 1, none⟩ = some (.int .u64 (pn : Int)) ∧ W.drew.cell? ⟨y, 4, none⟩ = some (.slice (some ⟨u, 0, none⟩) 8 k) from ⟨c1, c4⟩)
        clear hr5 hr3 h5 hx1 hx2 hv5 hv3 hyes
        go_upto_region 4 with (fail)
        refine rstart (S := (fun w' => w'.cell? ⟨y, 1, none⟩ = some (.int .u64 (pn : Int)) ∧ w'.cell? ⟨y, 4, none⟩ = some (.slice (some ⟨u, 0, none⟩) 8 k))) (by first | with_reducible exact K2.out | with_reducible exact K1.out) (fun hH => ?_)
        refine tk (i := 0) (oi := ⟨some 39, .fieldAddr 87 (.tmp 6) 1, 0, "ref.go:45", #[], none⟩) hH.out (by rintro w ⟨s0, s1⟩; go_simp <;> with_reducible rfl) ?_
        simp only [Act.put, sA, sB, sC]
        refine tk (i := 1) (oi := ⟨some 40, .load 49 (.tmp 39), 49, "ref.go:45", #[⟨0, .data⟩], none⟩) hH.out (by rintro w ⟨s0, s1⟩; go_simp <;> with_reducible rfl) ?_
        simp only [Act.put, sA, sB, sC]
        refine tk (i := 2) (oi := ⟨some 41, .fieldAddr 87 (.tmp 6) 4, 0, "ref.go:45", #[], none⟩) hH.out (by rintro w ⟨s0, s1⟩; go_simp <;> with_reducible rfl) ?_
        simp only [Act.put, sA, sB, sC]
        refine tk (i := 3) (oi := ⟨some 42, .load 53 (.tmp 41), 53, "ref.go:45", #[⟨2, .data⟩], none⟩) hH.out (by rintro w ⟨s0, s1⟩; go_simp <;> with_reducible rfl) ?_
        simp only [Act.put, sA, sB, sC]
        refine tk (i := 4) (oi := ⟨some 43, .slice 53 (.tmp 42) none (some (.const (Go.Value.int Go.IntKind.i64 5))) none, 53, "ref.go:45", #[⟨3, .data⟩], none⟩) hH.out (by rintro w ⟨s0, s1⟩; go_simp <;> with_reducible rfl) ?_
        simp only [Act.put, sA, sB, sC]
        refine tk (i := 6) (oi := ⟨some 45, .fieldAddr 87 (.tmp 6) 4, 0, "ref.go:45", #[], none⟩) hH.out (by rintro w ⟨s0, s1⟩; go_simp <;> with_reducible rfl) ?_
        simp only [Act.put, sA, sB, sC]
        refine tk (i := 7) (oi := ⟨some 46, .load 53 (.tmp 45), 53, "ref.go:45", #[⟨6, .data⟩], none⟩) hH.out (by rintro w ⟨s0, s1⟩; go_simp <;> with_reducible rfl) ?_
        simp only [Act.put, sA, sB, sC]
        refine tk (i := 8) (oi := ⟨some 47, .slice 53 (.tmp 46) (some (.const (Go.Value.int Go.IntKind.i64 5))) none none, 53, "ref.go:45", #[⟨7, .data⟩], none⟩) hH.out (by rintro w ⟨s0, s1⟩; go_simp <;> with_reducible rfl) ?_
        simp only [Act.put, sA, sB, sC]
        refine rdy (i := 5) (oi := ⟨some 44, .call ⟨.value (.func 33), #[.tmp 43], #[53]⟩, 49, "ref.go:45", #[⟨4, .data⟩], none⟩) (fun K hK => ?_)
        go_simp
        refine (HV5.out _ HR5.out).mono ?_
        rintro x w5 ⟨rfl, rfl⟩
        go_wp2_with fail
        refine hK.out _ _ (by first | with_reducible exact K2.out | with_reducible exact K1.out) (fun hHeld => ?_)
        replace hH := Lib.hid hHeld
        clear hK K hHeld
        try simp only [Act.put, sA, sB, sC]
        refine rdy (i := 9) (oi := ⟨some 48, .call ⟨.value (.func 33), #[.tmp 47], #[53]⟩, 49, "ref.go:45", #[⟨8, .data⟩, ⟨5, .chain⟩], none⟩) (fun K hK => ?_)
        go_simp
        refine (HV3.out _ HR3.out).mono ?_
        rintro x w6 ⟨rfl, rfl⟩
        go_wp2_with fail
        refine hK.out _ _ (by first | with_reducible exact K2.out | with_reducible exact K1.out) (fun hHeld => ?_)
        replace hH := Lib.hid hHeld
        clear hK K hHeld
        try simp only [Act.put, sA, sB, sC]
        refine tk (i := 10) (oi := ⟨some 49, .build 76 #[(0, .tmp 40), (1, .tmp 44), (2, .tmp 48)], 76, "ref.go:45", #[⟨1, .data⟩, ⟨5, .data⟩, ⟨9, .data⟩], none⟩) hH.out (by rintro w ⟨s0, s1⟩; go_simp <;> with_reducible rfl) ?_
        simp only [Act.put, sA, sB, sC]
        refine rdy (i := 11) (oi := ⟨none, .store 76 (.tmp 4) (.tmp 49), 0, "ref.go:45", #[⟨10, .data⟩, ⟨9, .chain⟩, ⟨0, .phase⟩, ⟨1, .phase⟩, ⟨2, .phase⟩, ⟨3, .phase⟩, ⟨4, .phase⟩, ⟨5, .phase⟩, ⟨6, .phase⟩, ⟨7, .phase⟩, ⟨8, .phase⟩, ⟨9, .phase⟩, ⟨10, .phase⟩], none⟩) (fun K hK => ?_)
        refine st_store3 sizeRHead rfl (.tmp 4) (.tmp 49) rfl z _ (h3 (pn : Int) (x1 : Int) (x2 : Int)) HZD.out rfl rfl (h3_one _ _ _) rfl rfl ?_
        have K2 := Lib.hid (show (W.drew.setCells z 0 (h3 (pn : Int) (x1 : Int) (x2 : Int)).toList).cell? ⟨y, 1, none⟩ = some (.int .u64 (pn : Int)) ∧ (W.drew.setCells z 0 (h3 (pn : Int) (x1 : Int) (x2 : Int)).toList).cell? ⟨y, 4, none⟩ = some (.slice (some ⟨u, 0, none⟩) 8 k) from ⟨(World.cell?_of_block (lsetCells_heap z HYZ.out _ 0 _)).trans K1.out.1, (World.cell?_of_block (lsetCells_heap z HYZ.out _ 0 _)).trans K1.out.2⟩)
        refine hK.out _ _ (by first | with_reducible exact K2.out | with_reducible exact K1.out) (fun hHeld => ?_)
        replace hH := Lib.hid hHeld
        clear hK K hHeld
        try simp only [Act.put]
        refine tk (i := 12) (oi := ⟨some 5, .assign (.const (Go.Value.bool true)), 4, "ref.go:45", #[⟨11, .chain⟩, ⟨0, .phase⟩, ⟨1, .phase⟩, ⟨2, .phase⟩, ⟨3, .phase⟩, ⟨4, .phase⟩, ⟨5, .phase⟩, ⟨6, .phase⟩, ⟨7, .phase⟩, ⟨8, .phase⟩, ⟨9, .phase⟩, ⟨10, .phase⟩, ⟨11, .phase⟩], none⟩) hH.out (by rintro w ⟨s0, s1⟩; go_simp <;> with_reducible rfl) ?_
        simp only [Act.put, sA, sB, sC]
        refine wpAnyH_done (by kernel_rfl) ?_ _
        obtain ⟨hz0, hz1, hz2⟩ := (HZD.out.putAll (D := h3 (pn : Int) (x1 : Int) (x2 : Int)) rfl).three
        have hfin : OneR w (unO l r) (.returned (.tuple #[.agg #[.int .u64 (pn : Int), .int .u64 (x1 : Int), .int .u64 (x2 : Int)], .bool true])) (W.drew.setCells z 0 (h3 (pn : Int) (x1 : Int) (x2 : Int)).toList) := by
          rw [HYES.out]
          exact ⟨rfl, Adv.lsetCells _ 0 _ ((HA.out.trans HT.out).drew) (.inr HLZ.out)⟩
        have HFIN := Lib.hid hfin
        clear hfin
        go_wp2_with fail
        exact bodyPost_ret (v := .tuple #[.agg #[.int .u64 (pn : Int), .int .u64 (x1 : Int), .int .u64 (x2 : Int)], .bool true]) (by simp [results, Tryz.results70, go_sem, hz0, hz1, hz2]) rfl HFIN.out
      · have h8' : ((d : Int) == 8) = false := by rw [beq_eq_false_iff_ne]; omega
        have H8 := Lib.hid h8
        clear h8
        go_wp2_with (first
          | (refine op_store3 sizeRHead rfl (.tmp 4) (.tmp 38) rfl z _ (h3 0 0 0) HZ1.out rfl rfl (h3_one _ _ _) rfl rfl ?_)
          | fail)
        obtain ⟨hz0, hz1, hz2⟩ := (HZ1.out.putAll (D := h3 0 0 0) rfl).three
        exact bodyPost_ret (v := .tuple #[.agg #[.int .u64 0, .int .u64 0, .int .u64 0], .bool false]) (by simp [results, Tryz.results70, go_sem, hz0, hz1, hz2]) rfl (HNO.out (unO_none (by rw [unHd, ← HDEC.out]; exact if_neg (fun h => H8.out (by rw [HD.out]; exact h.2.2.2)))))

    · have ho' : ((r : Int) == (odd : Int)) = false := by rw [beq_eq_false_iff_ne]; omega
      have HO := Lib.hid ho
      clear ho
      have hno : unO l odd = none := by
        by_cases h8 : D.length = 8
        · exact unO_no (h := ⟨pn, val D / 16777216, val D % 16777216⟩) (by rw [unHd, ← HDEC.out, if_pos ⟨HWH.out, rfl, rfl, h8⟩]) (by show pn % 2 ≠ odd; rw [← HRR.out]; exact HO.out)
        · exact unO_none (by rw [unHd, ← HDEC.out]; exact if_neg (fun h => h8 h.2.2.2))
      have HN0 := Lib.hid hno
      clear hno
      go_wp2_with (first
        | (refine op_store3 sizeRHead rfl (.tmp 4) (.tmp 38) rfl z _ (h3 0 0 0) HZ1.out rfl rfl (h3_one _ _ _) rfl rfl ?_)
        | fail)
      obtain ⟨hz0, hz1, hz2⟩ := (HZ1.out.putAll (D := h3 0 0 0) rfl).three
      exact bodyPost_ret (v := .tuple #[.agg #[.int .u64 0, .int .u64 0, .int .u64 0], .bool false]) (by simp [results, Tryz.results70, go_sem, hz0, hz1, hz2]) rfl (HNO.out HN0.out)

  · obtain rfl : E = 4 := by rw [HE.out, unsealE, if_neg hw]
    have HNW := Lib.hid hw
    clear hw
    go_wp2_with (first
      | (refine op_store3 sizeRHead rfl (.tmp 4) (.tmp 38) rfl z _ (h3 0 0 0) HZ1.out rfl rfl (h3_one _ _ _) rfl rfl ?_)
      | fail)
    obtain ⟨hz0, hz1, hz2⟩ := (HZ1.out.putAll (D := h3 0 0 0) rfl).three
    exact bodyPost_ret (v := .tuple #[.agg #[.int .u64 0, .int .u64 0, .int .u64 0], .bool false]) (by simp [results, Tryz.results70, go_sem, hz0, hz1, hz2]) rfl (HNO.out (unO_none (by rw [unHd]; exact if_neg (fun h => HNW.out h.1))))
end Go.Proofs.YtbdjlmdbnoghnaaGreat
