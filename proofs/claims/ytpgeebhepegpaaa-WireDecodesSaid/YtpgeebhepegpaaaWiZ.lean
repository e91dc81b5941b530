/- The document's message of bytes. -/
import Derived.Test.YtpgeebhepegpaaaWiK
import Derived.Test.YtpgeebhepegpaaaWiE
import Derived.Test.YtpgeebhepegpaaaMwG
import Derived.Test.YtpgeebhepegpaaaMwA
namespace Go.Proofs.Ytpgeebhepegpaaa
open Go.ChangeShapes Go.WideShapes Go.ChangeAt Go.RowKit

set_option maxRecDepth 3000 in
theorem drewNW_keep (w : World) (n : Nat) {g : Nat} : (w.drewN n).heap[g]? = w.heap[g]? := rfl
set_option maxRecDepth 3000 in
theorem built_ty (t : Int) : Try.prog.built 28 [(0, .int .i64 t)] = some (mc { ms0 with ty := t } nilV) := by kernel_rfl
set_option maxRecDepth 3000 in
theorem built_en1 (s : ByteArray) : Try.prog.built 54 [(0, .string s)] = some (ea ⟨s, 0, 0, 0⟩) := by kernel_rfl
set_option maxRecDepth 3000 in
theorem sizeEn1 : (Try.prog.info? 54).map (·.size) = some 4 := by kernel_rfl
/-- between two entries -/
def QwL (W W1 : World) (z u c q V p n : Nat) (G : Nat → Prop) (Z : Array Value) (m : Ms) (t8 : Value) (wr : World) : Prop := ∃ (k : Nat) (v : Value), t8 = .int .i64 (k : Int) ∧ k ≤ n ∧ QmS W z u c q V (pwE q V p k) G Z (mc m v) wr ∧ EnG W1 (fun j => (G j ∨ j = u) ∨ j = z) (enW q V p k) v wr
set_option maxRecDepth 3000 in
set_option maxHeartbeats 12800000 in
theorem q17decode_any (v : Value) (l : List Nat) (w : World) (h : In w v l) (h7 : l.length ≤ 700) : Calls Try.prog 28 #[v] w (DecM w l) := by
  obtain ⟨n, hn⟩ : ∃ n, n = l.length := ⟨_, rfl⟩
  have HIN := Lib.hid (h.num hn)
  have hrd := h.rd
  rw [← hn] at hrd
  obtain ⟨A, c0, rfl, hc1, hc2⟩ := hrd.form
  have HR := Lib.hid hrd
  have hl8 : l.length ≤ 2048 := by omega
  have HNO := Lib.hid (fun w' hd ha => @DecM.no w w' l hl8 hd ha)
  have HYES := Lib.hid (fun (w' : World) (v : Value) (hd : decM l = some (rdM l.length (byN l))) (hE : EnR7 w' v (rdM l.length (byN l)).en) (ha : Adv Nul w Nul w') => @DecM.yes w w' l _ v hl8 hd hE ha)
  have HBAD := Lib.hid (badH_none (l := l))
  have HEND := Lib.hid (dec_end_no (l := l))
  have HISN := Lib.hid (dec_is_no (l := l))
  have HISY := Lib.hid (dec_is_yes (l := l))
  have HB := Lib.hid h.lt
  obtain ⟨V, hV⟩ : ∃ V, V = byN l := ⟨_, rfl⟩
  have HOF := Lib.hid (fun (w' : World) (ha : Adv Nul w Nul w') => show Calls Try.prog 52 #[.slice A n c0] w' fun e w'' => ∃ v' F bl, e = .returned v' ∧ Sl w'' F 5 1 v' (8 * n) (bl.map u8) ∧ Bl bl V (8 * n) ∧ Adv Nul w' F w'' by rw [hV]; exact of_any _ n l w' (HIN.out.far ha.toBelow) (by omega))
  rw [← hn] at h7
  rw [← hn, ← hV] at HYES HBAD HEND HISN HISY
  have H7 := Lib.hid h7
  have h7i : (n : Int) ≤ 700 := by omega
  clear hc1 hc2 hrd h hl8 h7 HIN hV hn
  obtain ⟨s, hs⟩ : ∃ s, s = sW n V := ⟨_, rfl⟩
  have HSO := Lib.hid (show (∀ x ∈ s, x < 256) ∧ s.length ≤ 4 by rw [hs]; exact letM_ok _ _ _)
  have HHAS := Lib.hid (fun c w => has17_s HSO.out.1 (Nat.le_trans HSO.out.2 (by decide)) c w)
  have HFL := Lib.hid (fun (hk : (hdW n V).ty = 3 ∨ (hdW n V).er ≠ 0 ∨ (1 ≤ (hdW n V).kd ∧ (hdW n V).kd ≤ 14)) w' => show Calls Try.prog 43 #[.agg (mc (hdW n V) nilV)] w' fun e w'' => e = .returned (.string (txt s)) ∧ Adv Nul w' Nul w'' by rw [hs]; exact fields17_any (hdW n V) nilV hk w')
  have HRM := Lib.hid (show rdM n V = rdW n V s by rw [hs]; rfl)
  rw [← hs] at HEND
  rw [HRM.out] at HYES HISN HISY
  obtain ⟨sb, hsb⟩ : ∃ sb, sb = txt s := ⟨_, rfl⟩
  rw [← hsb] at HHAS HFL
  have HWF := Lib.hid (show WfM (rdW n V s) from by
    have h7 := H7.out
    refine ⟨?_, ?_, ?_, ?_, ?_, ?_, ?_, ?_⟩
    · have := getT_lt n V 5 40; show getT n V 5 40 < _; omega
    · have := getT_lt n V 45 40; show getT n V 45 40 < _; omega
    · have := getT_lt n V 85 40; show getT n V 85 40 < _; omega
    · show (if 118 ∈ s then getT n V (pw7 n V s) 40 else 0) < _; have := getT_lt n V (pw7 n V s) 40; split <;> omega
    · show (if 110 ∈ s then txT n V (pw2 s) else (⟨#[]⟩ : ByteArray)).size ≤ 1000; have := txT_le n V (pw2 s); split
      · omega
      · exact Nat.zero_le _
    · show (if 111 ∈ s then txT n V (pw3 n V s) else (⟨#[]⟩ : ByteArray)).size ≤ 1000; have := txT_le n V (pw3 n V s); split
      · omega
      · exact Nat.zero_le _
    · show (if 116 ∈ s then txT n V (pw6 n V s) else (⟨#[]⟩ : ByteArray)).size ≤ 1000; have := txT_le n V (pw6 n V s); split
      · omega
      · exact Nat.zero_le _
    · show (enW n V (pw8 n V s + 5) (cntW n V s)).length ≤ 1000
      rw [enW_len]
      unfold cntW
      have := getT_lt n V (pw8 n V s) 5
      split <;> omega)
  have HEN := Lib.hid (fun v w' hE => q17encode_any (rdW n V s) v HWF.out w' hE)
  clear hs hsb HWF HRM HSO
  obtain ⟨Z, hZ⟩ : ∃ C, C = mc ms0 nilV := ⟨_, rfl⟩
  have HZS := Lib.hid (show Z.size = 18 by rw [hZ]; rfl)
  have HZ1 := Lib.hid (show Z.all (·.oneCell') = true by rw [hZ]; exact mc_one _ _ _ _)
  have HI := Lib.hid infoM
  have HBU := Lib.hid built_M0
  rw [← hZ] at HI HBU HNO
  clear hZ
  obtain ⟨p0, hp0⟩ : ∃ p, p = getT n V 0 2 := ⟨_, rfl⟩
  obtain ⟨p1, hp1⟩ : ∃ p, p = getT n V 2 3 := ⟨_, rfl⟩
  obtain ⟨p2, hp2⟩ : ∃ p, p = getT n V 5 40 := ⟨_, rfl⟩
  obtain ⟨p3, hp3⟩ : ∃ p, p = getT n V 45 40 := ⟨_, rfl⟩
  obtain ⟨p4, hp4⟩ : ∃ p, p = getT n V 85 40 := ⟨_, rfl⟩
  obtain ⟨p5, hp5⟩ : ∃ p, p = getT n V 125 4 := ⟨_, rfl⟩
  obtain ⟨p6, hp6⟩ : ∃ p, p = getT n V 129 5 := ⟨_, rfl⟩
  have e0 := wrap_getT n V 0 2 (by decide)
  have e1 := wrap_getT n V 2 3 (by decide)
  have e5 := wrap_getT n V 125 4 (by decide)
  have e6 := wrap_getT n V 129 5 (by decide)
  rw [← hp0] at e0
  rw [← hp1] at e1
  rw [← hp5] at e5
  rw [← hp6] at e6
  have G0 := Lib.hid (fun (w : World) (G : Nat → Prop) (b : Nat) (h : XT w G b n V 0) => h.getx 2 (by decide))
  have G1 := Lib.hid (fun (w : World) (G : Nat → Prop) (b : Nat) (h : XT w G b n V 2) => h.getx 3 (by decide))
  have G2 := Lib.hid (fun (w : World) (G : Nat → Prop) (b : Nat) (h : XT w G b n V 5) => h.getx 40 (by decide))
  have G3 := Lib.hid (fun (w : World) (G : Nat → Prop) (b : Nat) (h : XT w G b n V 45) => h.getx 40 (by decide))
  have G4 := Lib.hid (fun (w : World) (G : Nat → Prop) (b : Nat) (h : XT w G b n V 85) => h.getx 40 (by decide))
  have G5 := Lib.hid (fun (w : World) (G : Nat → Prop) (b : Nat) (h : XT w G b n V 125) => h.getx 4 (by decide))
  have G6 := Lib.hid (fun (w : World) (G : Nat → Prop) (b : Nat) (h : XT w G b n V 129) => h.getx 5 (by decide))
  rw [← hp0] at G0
  rw [← hp1] at G1
  rw [← hp2] at G2
  rw [← hp3] at G3
  rw [← hp4] at G4
  rw [← hp5] at G5
  rw [← hp6] at G6
  have HBT := Lib.hid (built_ty (wrap64 (p0 : Int)))
  obtain ⟨D, hD⟩ : ∃ C, C = mc { ms0 with ty := (p0 : Int) } nilV := ⟨_, rfl⟩
  have HDS := Lib.hid (show D.size = 18 by rw [hD]; rfl)
  have HD1 := Lib.hid (show D.all (·.oneCell') = true by rw [hD]; exact mc_one _ _ _ _)
  have HDC := Lib.hid hD
  have HHW := Lib.hid (show ((((((D.setIfInBounds 1 (.int .i64 (p1 : Int))).setIfInBounds 2 (.int .u64 (p2 : Int))).setIfInBounds 3 (.int .u64 (p3 : Int))).setIfInBounds 4 (.int .u64 (p4 : Int))).setIfInBounds 5 (.int .i64 (p5 : Int))).setIfInBounds 6 (.int .i64 (p6 : Int))) = mc (hdW n V) nilV by rw [hD, hp0, hp1, hp2, hp3, hp4, hp5, hp6]; rfl)
  have HP0 := Lib.hid hp0
  have HP5 := Lib.hid hp5
  rw [show mc { ms0 with ty := wrap64 (p0 : Int) } nilV = D by rw [hD, e0]] at HBT
  clear hp0 hp1 hp2 hp3 hp4 hp5 hp6 hD
  go_enter Try.func28, Try.ntmps28
  go_upto_region 4 with (first
    | (refine kop_alloc rfl rfl HI.out ?_; intro z w1 hz hb ha; have HZZ := Lib.hid hz; have HBZ := Lib.hid hb; have HA1 := Lib.hid ((Adv.refl Nul w).trans ha); clear hz hb ha)
    | (go_at_call 52; refine (HOF.out _ HA1.out).mono ?_; clear HOF; rintro e w2 ⟨v2, F2, bl, rfl, s2, b2, a2⟩; obtain ⟨A2, c2, rfl, _, _⟩ := s2.form0; have HBZ2 := Lib.hid (HBZ.out.over a2); have HA2 := Lib.hid (HA1.out.trans a2); have HS2 := Lib.hid s2; have HB2 := Lib.hid b2; have HF2 := Lib.hid (show ¬ F2 z from fun h => by rcases a2.into z h with h | h; exact h.elim; exact absurd HBZ.out.lt (by omega)); clear s2 b2 a2)
    | (refine kop_box rfl _ rfl rfl ?_; intro c w3 hz hb ha; have HX3 := Lib.hid (xt_new HS2.out HB2.out HA2.out hb ha hz); have HBZ3 := Lib.hid (HBZ2.out.over ha); have HFZ := Lib.hid (show ¬ (F2 z ∨ z = c) from fun h => h.elim HF2.out (fun e => by have := HBZ2.out.lt; omega)); clear hz hb ha)
    | fail)
  obtain ⟨G, hG⟩ : ∃ G : Nat → Prop, G = fun j => F2 j ∨ j = c := ⟨_, rfl⟩
  have HFG := Lib.hid (show ¬ G z by rw [hG]; exact HFZ.out)
  have HXG := Lib.hid (show XT w3 G c n V 0 ∧ Adv Nul w G w3 by rw [hG]; exact HX3.out)
  clear HS2 HB2 HA2 HF2 HX3 HFZ HBZ HBZ2 HA1 hG
  go_upto_region 5 with (first
    | (go_at_call 53; refine (G0.out _ _ _ HXG.out.1).mono ?_; clear G0; rintro e w4 ⟨rfl, x4, a4⟩; have HX4 := Lib.hid x4; have HA4 := Lib.hid (HXG.out.2.trans a4); have HBZ4 := Lib.hid (HBZ3.out.keep (a4.block z HBZ3.out.lt HFG.out)); clear x4 a4)
    | (refine kop_built rfl rfl ?hbb HBT.out ?_; case hbb => kernel_rfl)
    | (refine kop_alloc rfl rfl HI.out ?_; intro u w5 hz hb ha; have HUU := Lib.hid (Nat.le_trans HA4.out.size hz); have HBU5 := Lib.hid hb; have HA5 := Lib.hid (HA4.out.over ha); have HBZ5 := Lib.hid (HBZ4.out.over ha); have HX5 := Lib.hid (HX4.out.far ha (fun _ h => h.elim)); have HNE := Lib.hid (show u ≠ z from fun e => by have := HBZ4.out.lt; omega); have HFU := Lib.hid (show ¬ G u from fun h => by have := HX4.out.bd u h; omega); clear hz hb ha)
    | (refine kop_store rfl _ _ rfl u HBU5.out rfl rfl sizeM HDS.out HZS.out HD1.out ?_; intro w6 hb ha; have HS := Lib.hid ((show QmS w z u c n V 2 G Z Z w5 from ⟨HX5.out, HBU5.out, HBZ5.out, HA5.out, HFU.out, HFG.out, HNE.out, HUU.out, HZZ.out⟩).put hb ha); clear hb ha HX5 HBU5 HA5 HBZ5 HX4 HA4 HBZ4)
    | fail)
  clear HXG HBZ3 HBT
  go_upto_region 11 with (first
    | (go_at_call 53; refine (G1.out _ _ _ HS.out.xs).mono ?_; clear G1; rintro e w7 ⟨rfl, x7, a7⟩; have HS7 := Lib.hid ((HS.out.get x7 a7).set 1 (.int .i64 (p1 : Int))); have hB7 := (HS.out.get x7 a7).bu; rw [HDC.out] at hB7; have d1 := show w7.cell? ⟨u, 1, none⟩ = some (.int .i64 0) from (hB7.cell 1).trans rfl; have f1 := hB7.frozen 1; clear x7 a7 hB7 HS)
    | (go_at_call 53; refine (G2.out _ _ _ HS7.out.xs).mono ?_; clear G2; rintro e w8 ⟨rfl, x8, a8⟩; have HS8 := Lib.hid ((HS7.out.get x8 a8).set 2 (.int .u64 (p2 : Int))); have hB8 := (HS7.out.get x8 a8).bu; rw [HDC.out] at hB8; have d2 := show w8.cell? ⟨u, 2, none⟩ = some (.int .u64 0) from (hB8.cell 2).trans rfl; have f2 := hB8.frozen 2; clear x8 a8 hB8 HS7)
    | (go_at_call 53; refine (G3.out _ _ _ HS8.out.xs).mono ?_; clear G3; rintro e w9 ⟨rfl, x9, a9⟩; have HS9 := Lib.hid ((HS8.out.get x9 a9).set 3 (.int .u64 (p3 : Int))); have hB9 := (HS8.out.get x9 a9).bu; rw [HDC.out] at hB9; have d3 := show w9.cell? ⟨u, 3, none⟩ = some (.int .u64 0) from (hB9.cell 3).trans rfl; have f3 := hB9.frozen 3; clear x9 a9 hB9 HS8)
    | (go_at_call 53; refine (G4.out _ _ _ HS9.out.xs).mono ?_; clear G4; rintro e w10 ⟨rfl, x10, a10⟩; have HS10 := Lib.hid ((HS9.out.get x10 a10).set 4 (.int .u64 (p4 : Int))); have hB10 := (HS9.out.get x10 a10).bu; rw [HDC.out] at hB10; have d4 := show w10.cell? ⟨u, 4, none⟩ = some (.int .u64 0) from (hB10.cell 4).trans rfl; have f4 := hB10.frozen 4; clear x10 a10 hB10 HS9)
    | (go_at_call 53; refine (G5.out _ _ _ HS10.out.xs).mono ?_; clear G5; rintro e w11 ⟨rfl, x11, a11⟩; have HS11 := Lib.hid ((HS10.out.get x11 a11).set 5 (.int .i64 (p5 : Int))); have hB11 := (HS10.out.get x11 a11).bu; rw [HDC.out] at hB11; have d5 := show w11.cell? ⟨u, 5, none⟩ = some (.int .i64 0) from (hB11.cell 5).trans rfl; have f5 := hB11.frozen 5; clear x11 a11 hB11 HS10)
    | (go_at_call 53; refine (G6.out _ _ _ HS11.out.xs).mono ?_; clear G6; rintro e w12 ⟨rfl, x12, a12⟩; have HS12 := Lib.hid ((HS11.out.get x12 a12).set 6 (.int .i64 (p6 : Int))); have hB12 := (HS11.out.get x12 a12).bu; rw [HDC.out] at hB12; have d6 := show w12.cell? ⟨u, 6, none⟩ = some (.int .i64 0) from (hB12.cell 6).trans rfl; have f6 := hB12.frozen 6; clear x12 a12 hB12 HS11)
    | fail)
  obtain ⟨W1, hW1⟩ : ∃ W, W = World.setCell w12 ⟨u, 6, none⟩ (.int .i64 (p6 : Int)) := ⟨_, rfl⟩
  have hS := HS12.out
  rw [HHW.out, ← hW1] at hS
  rw [← hW1]
  have HS := Lib.hid (show QmS w z u c n V 134 G Z (mc (hdW n V) nilV) W1 from hS)
  clear hW1 hS HS12 d1 d2 d3 d4 d5 d6 f1 f2 f3 f4 f5 f6 e0 e1 e5 e6 HHW HDC HDS HD1
  go_upto_region 11 with (fail)
  obtain ⟨B, hB⟩ : ∃ B, B = decide (badH n V) := ⟨_, rfl⟩
  have HBB := Lib.hid hB
  clear hB
  have HC := Lib.hid (show W1.cell? ⟨u, 0, none⟩ = some (.int .i64 (p0 : Int)) ∧ W1.cell? ⟨u, 5, none⟩ = some (.int .i64 (p5 : Int)) by rw [HP0.out, HP5.out]; exact ⟨HS.out.bu.c18.a.1, HS.out.bu.c18.a.2.2.2.2.2.1⟩)
  go_cut [70] (fun t70 w9 => t70 = .bool B ∧ w9 = W1)
  case first =>
    as_aux_lemma =>
    obtain ⟨c0, c5⟩ := HC.out
    have hp0 : p0 < 4 := by rw [HP0.out]; exact getT_lt _ _ _ _
    have hp5 : p5 < 16 := by rw [HP5.out]; exact getT_lt _ _ _ _
    have hbad : B = decide (8 * n < 134 ∨ p0 < 1 ∨ 14 < p5 ∨ (p0 < 3 ∧ p5 < 1)) := by rw [HBB.out, HP0.out, HP5.out]; exact (decide_eq_decide).2 Iff.rfl
    rcases HS.out.xs.err with ⟨h1, ce⟩ | ⟨h1, ce⟩
    · by_cases k1 : p0 < 1
      · have g1 : decide ((p0 : Int) < 1) = true := decide_eq_true (by omega)
        obtain rfl : B = true := by rw [hbad]; exact decide_eq_true (.inr (.inl k1))
        clear hbad h1 k1 hp0 hp5
        go_wp2_with fail
        go_meet
        exact ⟨rfl, rfl⟩
      · have g1 : decide ((p0 : Int) < 1) = false := decide_eq_false (by omega)
        by_cases k2 : 14 < p5
        · have g2 : decide (14 < (p5 : Int)) = true := decide_eq_true (by omega)
          obtain rfl : B = true := by rw [hbad]; exact decide_eq_true (.inr (.inr (.inl k2)))
          clear hbad h1 k1 hp0 hp5 k2
          go_wp2_with fail
          go_meet
          exact ⟨rfl, rfl⟩
        · have g2 : decide (14 < (p5 : Int)) = false := decide_eq_false (by omega)
          by_cases k3 : p0 < 3
          · have g3 : decide ((p0 : Int) < 3) = true := decide_eq_true (by omega)
            by_cases k4 : p5 < 1
            · have g4 : decide ((p5 : Int) < 1) = true := decide_eq_true (by omega)
              obtain rfl : B = true := by rw [hbad]; exact decide_eq_true (.inr (.inr (.inr ⟨k3, k4⟩)))
              clear hbad h1 k1 hp0 hp5 k2 k3 k4
              go_wp2_with fail
              go_meet
              exact ⟨rfl, rfl⟩
            · have g4 : decide ((p5 : Int) < 1) = false := decide_eq_false (by omega)
              obtain rfl : B = false := by rw [hbad]; exact decide_eq_false (by omega)
              clear hbad h1 k1 hp0 hp5 k2 k3 k4
              go_wp2_with fail
              go_meet
              exact ⟨rfl, rfl⟩
          · have g3 : decide ((p0 : Int) < 3) = false := decide_eq_false (by omega)
            obtain rfl : B = false := by rw [hbad]; exact decide_eq_false (by omega)
            clear hbad h1 k1 hp0 hp5 k2 k3
            go_wp2_with fail
            go_meet
            exact ⟨rfl, rfl⟩
    · obtain rfl : B = true := by rw [hbad]; exact decide_eq_true (.inl h1)
      clear hbad h1 hp0 hp5
      go_wp2_with fail
      go_meet
      exact ⟨rfl, rfl⟩
  case rest =>
  obtain ⟨rfl, rfl⟩ := hcut
  clear HC
  by_cases hbh : badH n V
  · obtain rfl : B = true := by rw [HBB.out, decide_eq_true hbh]
    have HDN := Lib.hid (HBAD.out hbh)
    clear hbh HBB HBAD HEND HISN HISY HYES HFL HHAS HEN
    as_aux_lemma =>
    go_wp2_with (first
      | (refine kop_zero HBU.out rfl rfl ?_)
      | (refine kop_store rfl _ _ rfl z HS.out.bz rfl rfl sizeM HZS.out HZS.out HZ1.out ?_; intro w16 hb ha; have HB16 := Lib.hid hb; have HA16 := Lib.hid ((HS.out.ad.nul).fresh HS.out.nz ha); clear hb ha)
      | fail)
    exact bodyPost_ret (kres2 (v := .int .i64 4) rfl _ _ rfl rfl HB16.out Try.underlying28 rfl (by rw [sizeM, HZS.out])) rfl (HNO.out _ HDN.out HA16.out)
  · obtain rfl : B = false := by rw [HBB.out, decide_eq_false hbh]
    have HF2 := Lib.hid (HFL.out (by
      unfold badH at hbh
      have e1 : (hdW n V).ty = ((getT n V 0 2 : Nat) : Int) := rfl
      have e2 : (hdW n V).kd = ((getT n V 125 4 : Nat) : Int) := rfl
      have e3 := getT_lt n V 0 2
      rw [e1, e2]
      omega))
    clear hbh HBB HBAD HFL HP0 HP5
    obtain ⟨E0, hE0⟩ : ∃ C, C = mc (hdW n V) nilV := ⟨_, rfl⟩
    have HE0 := Lib.hid hE0
    have HES := Lib.hid (show E0.size = 18 by rw [hE0]; rfl)
    rw [← hE0] at HF2 HS
    clear hE0
    go_upto_region 14 with (first
      | (refine kop_load rfl _ rfl u HS.out.bu rfl Try.underlying28 rfl sizeM HES.out ?_)
      | (go_at_call 43; refine (HF2.out _).mono ?_; rintro e w3 ⟨rfl, a3⟩; have HS3 := Lib.hid (HS.out.over a3); clear a3 HS)
      | fail)
    rw [HE0.out] at HS3
    have HP := HS3
    clear HS3 HF2 HES HE0
    obtain ⟨t, ht⟩ : ∃ t, t = decide (102 ∈ s) := ⟨_, rfl⟩
    have HH := Lib.hid (HHAS.out 102)
    rw [← ht] at HH
    have HTB := Lib.hid ht
    clear ht
    go_upto_if 75 with (first
      | (go_at_call 44; refine (HH.out _).mono ?_; rintro e w3 ⟨rfl, rfl⟩)
      | fail)
    clear HH
    go_cut [] (fun w9 => QmS w z u c n V (pw1 s) G Z (mc (mw1 n V s) nilV) w9)
    case first =>
      as_aux_lemma =>
      have hb := HTB.out
      by_cases hc : 102 ∈ s
      · obtain rfl : t = true := by rw [hb, decide_eq_true hc]
        have HY := Lib.hid (mw1_yes (q := n) (V := V) hc)
        have HQ := Lib.hid (pw1_yes hc)
        obtain ⟨A', hA⟩ : ∃ A, A = 134 := ⟨_, rfl⟩
        have HP1 := HP
        rw [← hA] at HY HQ HP1
        have T := Lib.hid HP1.out.xs.gotf
        unfold flV at T
        obtain ⟨x, hx⟩ : ∃ x, x = getT n V A' 6 := ⟨_, rfl⟩
        obtain ⟨y, hy⟩ : ∃ y, y = getT n V (A' + 6) 31 := ⟨_, rfl⟩
        rw [← hx, ← hy] at T HY
        clear hb hc HTB hA hx hy
        go_wp2_with (first
          | (go_at_call 54; refine T.out.mono ?_; rintro e w4 ⟨rfl, h4, a4⟩; have HP4 := Lib.hid (HP1.out.get h4 a4); clear h4 a4)
          | (refine kop_storeF rfl _ _ rfl u 7 HP4.out.bu rfl rfl (by show 7 + 2 ≤ 18; decide) ⟨rfl, rfl⟩ ?_; intro w5 hb ha; have HP5 := Lib.hid (HP4.out.put hb ha); clear hb ha)
          | fail)
        go_meet
        rw [HQ.out, ← HY.out]
        exact HP5.out
      · obtain rfl : t = false := by rw [hb, decide_eq_false hc]
        have HY := Lib.hid (mw1_no (q := n) (V := V) hc)
        have HQ := Lib.hid (pw1_no hc)
        clear hb hc HTB
        go_wp2_with fail
        go_meet
        rw [HQ.out, ← HY.out]
        exact HP.out
    case rest =>
    replace HP := Lib.hid hcut
    clear hcut HTB
    obtain ⟨t, ht⟩ : ∃ t, t = decide (100 ∈ s) := ⟨_, rfl⟩
    have HH := Lib.hid (HHAS.out 100)
    rw [← ht] at HH
    have HTB := Lib.hid ht
    clear ht
    go_upto_if 80 with (first
      | (go_at_call 44; refine (HH.out _).mono ?_; rintro e w3 ⟨rfl, rfl⟩)
      | fail)
    clear HH
    go_cut [] (fun w9 => QmS w z u c n V (pw2 s) G Z (mc (mw2 n V s) nilV) w9)
    case first =>
      as_aux_lemma =>
      have hb := HTB.out
      by_cases hc : 100 ∈ s
      · obtain rfl : t = true := by rw [hb, decide_eq_true hc]
        have HY := Lib.hid (mw2_yes (q := n) (V := V) hc)
        have HQ := Lib.hid (pw2_yes hc)
        obtain ⟨A', hA⟩ : ∃ A, A = pw1 s := ⟨_, rfl⟩
        have HP1 := HP
        rw [← hA] at HY HQ HP1
        have T := Lib.hid HP1.out.xs.gotf
        unfold flV at T
        obtain ⟨x, hx⟩ : ∃ x, x = getT n V A' 6 := ⟨_, rfl⟩
        obtain ⟨y, hy⟩ : ∃ y, y = getT n V (A' + 6) 31 := ⟨_, rfl⟩
        rw [← hx, ← hy] at T HY
        clear hb hc HTB hA hx hy
        go_wp2_with (first
          | (go_at_call 54; refine T.out.mono ?_; rintro e w4 ⟨rfl, h4, a4⟩; have HP4 := Lib.hid (HP1.out.get h4 a4); clear h4 a4)
          | (refine kop_storeF rfl _ _ rfl u 9 HP4.out.bu rfl rfl (by show 9 + 2 ≤ 18; decide) ⟨rfl, rfl⟩ ?_; intro w5 hb ha; have HP5 := Lib.hid (HP4.out.put hb ha); clear hb ha)
          | fail)
        go_meet
        rw [HQ.out, ← HY.out]
        exact HP5.out
      · obtain rfl : t = false := by rw [hb, decide_eq_false hc]
        have HY := Lib.hid (mw2_no (q := n) (V := V) hc)
        have HQ := Lib.hid (pw2_no hc)
        clear hb hc HTB
        go_wp2_with fail
        go_meet
        rw [HQ.out, ← HY.out]
        exact HP.out
    case rest =>
    replace HP := Lib.hid hcut
    clear hcut HTB
    obtain ⟨t, ht⟩ : ∃ t, t = decide (110 ∈ s) := ⟨_, rfl⟩
    have HH := Lib.hid (HHAS.out 110)
    rw [← ht] at HH
    have HTB := Lib.hid ht
    clear ht
    go_upto_if 85 with (first
      | (go_at_call 44; refine (HH.out _).mono ?_; rintro e w3 ⟨rfl, rfl⟩)
      | fail)
    clear HH
    go_cut [] (fun w9 => QmS w z u c n V (pw3 n V s) G Z (mc (mw3 n V s) nilV) w9)
    case first =>
      as_aux_lemma =>
      have hb := HTB.out
      by_cases hc : 110 ∈ s
      · obtain rfl : t = true := by rw [hb, decide_eq_true hc]
        have HY := Lib.hid (mw3_yes (q := n) (V := V) hc)
        have HQ := Lib.hid (pw3_yes (q := n) (V := V) hc)
        obtain ⟨A', hA⟩ : ∃ A, A = pw2 s := ⟨_, rfl⟩
        have HP1 := HP
        rw [← hA] at HY HQ HP1
        have T := Lib.hid (HP1.out.xs.textp)
        obtain ⟨x, hx⟩ : ∃ x, x = txT n V A' := ⟨_, rfl⟩
        rw [← hx] at T HY
        clear hb hc HTB hA hx
        go_wp2_with (first
          | (go_at_call 55; refine T.out.mono ?_; rintro e w4 ⟨rfl, h4, a4⟩; have HP4 := Lib.hid (HP1.out.get h4 a4); have HP5 := Lib.hid (HP4.out.set 11 (.string x)); have d0 := HP4.out.bu.cell 11; have f0 := HP4.out.bu.frozen 11; clear h4 a4)
          | fail)
        go_meet
        rw [HQ.out, ← HY.out]
        exact HP5.out
      · obtain rfl : t = false := by rw [hb, decide_eq_false hc]
        have HY := Lib.hid (mw3_no (q := n) (V := V) hc)
        have HQ := Lib.hid (pw3_no (q := n) (V := V) hc)
        clear hb hc HTB
        go_wp2_with fail
        go_meet
        rw [HQ.out, ← HY.out]
        exact HP.out
    case rest =>
    replace HP := Lib.hid hcut
    clear hcut HTB
    obtain ⟨t, ht⟩ : ∃ t, t = decide (111 ∈ s) := ⟨_, rfl⟩
    have HH := Lib.hid (HHAS.out 111)
    rw [← ht] at HH
    have HTB := Lib.hid ht
    clear ht
    go_upto_if 90 with (first
      | (go_at_call 44; refine (HH.out _).mono ?_; rintro e w3 ⟨rfl, rfl⟩)
      | fail)
    clear HH
    go_cut [] (fun w9 => QmS w z u c n V (pw4 n V s) G Z (mc (mw4 n V s) nilV) w9)
    case first =>
      as_aux_lemma =>
      have hb := HTB.out
      by_cases hc : 111 ∈ s
      · obtain rfl : t = true := by rw [hb, decide_eq_true hc]
        have HY := Lib.hid (mw4_yes (q := n) (V := V) hc)
        have HQ := Lib.hid (pw4_yes (q := n) (V := V) hc)
        obtain ⟨A', hA⟩ : ∃ A, A = pw3 n V s := ⟨_, rfl⟩
        have HP1 := HP
        rw [← hA] at HY HQ HP1
        have T := Lib.hid (HP1.out.xs.textp)
        obtain ⟨x, hx⟩ : ∃ x, x = txT n V A' := ⟨_, rfl⟩
        rw [← hx] at T HY
        clear hb hc HTB hA hx
        go_wp2_with (first
          | (go_at_call 55; refine T.out.mono ?_; rintro e w4 ⟨rfl, h4, a4⟩; have HP4 := Lib.hid (HP1.out.get h4 a4); have HP5 := Lib.hid (HP4.out.set 12 (.string x)); have d0 := HP4.out.bu.cell 12; have f0 := HP4.out.bu.frozen 12; clear h4 a4)
          | fail)
        go_meet
        rw [HQ.out, ← HY.out]
        exact HP5.out
      · obtain rfl : t = false := by rw [hb, decide_eq_false hc]
        have HY := Lib.hid (mw4_no (q := n) (V := V) hc)
        have HQ := Lib.hid (pw4_no (q := n) (V := V) hc)
        clear hb hc HTB
        go_wp2_with fail
        go_meet
        rw [HQ.out, ← HY.out]
        exact HP.out
    case rest =>
    replace HP := Lib.hid hcut
    clear hcut HTB
    obtain ⟨t, ht⟩ : ∃ t, t = decide (107 ∈ s) := ⟨_, rfl⟩
    have HH := Lib.hid (HHAS.out 107)
    rw [← ht] at HH
    have HTB := Lib.hid ht
    clear ht
    go_upto_if 95 with (first
      | (go_at_call 44; refine (HH.out _).mono ?_; rintro e w3 ⟨rfl, rfl⟩)
      | fail)
    clear HH
    go_cut [] (fun w9 => QmS w z u c n V (pw5 n V s) G Z (mc (mw5 n V s) nilV) w9)
    case first =>
      as_aux_lemma =>
      have hb := HTB.out
      by_cases hc : 107 ∈ s
      · obtain rfl : t = true := by rw [hb, decide_eq_true hc]
        have HY := Lib.hid (mw5_yes (q := n) (V := V) hc)
        have HQ := Lib.hid (pw5_yes (q := n) (V := V) hc)
        obtain ⟨A', hA⟩ : ∃ A, A = pw4 n V s := ⟨_, rfl⟩
        have HP1 := HP
        rw [← hA] at HY HQ HP1
        have ew := wrap_getT n V A' 2 (by decide)
        have T := Lib.hid (HP1.out.xs.getx 2 (by decide))
        obtain ⟨x, hx⟩ : ∃ x, x = getT n V A' 2 := ⟨_, rfl⟩
        rw [← hx] at T HY ew
        clear hb hc HTB hA hx
        go_wp2_with (first
          | (go_at_call 53; refine T.out.mono ?_; rintro e w4 ⟨rfl, h4, a4⟩; have HP4 := Lib.hid (HP1.out.get h4 a4); have HP5 := Lib.hid (HP4.out.set 13 (.int .i64 (x : Int))); have d0 := HP4.out.bu.cell 13; have f0 := HP4.out.bu.frozen 13; clear h4 a4)
          | fail)
        go_meet
        rw [HQ.out, ← HY.out]
        exact HP5.out
      · obtain rfl : t = false := by rw [hb, decide_eq_false hc]
        have HY := Lib.hid (mw5_no (q := n) (V := V) hc)
        have HQ := Lib.hid (pw5_no (q := n) (V := V) hc)
        clear hb hc HTB
        go_wp2_with fail
        go_meet
        rw [HQ.out, ← HY.out]
        exact HP.out
    case rest =>
    replace HP := Lib.hid hcut
    clear hcut HTB
    obtain ⟨t, ht⟩ : ∃ t, t = decide (97 ∈ s) := ⟨_, rfl⟩
    have HH := Lib.hid (HHAS.out 97)
    rw [← ht] at HH
    have HTB := Lib.hid ht
    clear ht
    go_upto_if 101 with (first
      | (go_at_call 44; refine (HH.out _).mono ?_; rintro e w3 ⟨rfl, rfl⟩)
      | fail)
    clear HH
    go_cut [] (fun w9 => QmS w z u c n V (pw6 n V s) G Z (mc (mw6 n V s) nilV) w9)
    case first =>
      as_aux_lemma =>
      have hb := HTB.out
      by_cases hc : 97 ∈ s
      · obtain rfl : t = true := by rw [hb, decide_eq_true hc]
        have HY := Lib.hid (mw6_yes (q := n) (V := V) hc)
        have HQ := Lib.hid (pw6_yes (q := n) (V := V) hc)
        obtain ⟨A', hA⟩ : ∃ A, A = pw5 n V s := ⟨_, rfl⟩
        have HP1 := HP
        rw [← hA] at HY HQ HP1
        have ew := wrap_getT n V A' 3 (by decide)
        have T := Lib.hid (HP1.out.xs.getx 3 (by decide))
        obtain ⟨x, hx⟩ : ∃ x, x = getT n V A' 3 := ⟨_, rfl⟩
        rw [← hx] at T HY ew
        clear hb hc HTB hA hx
        go_wp2_with (first
          | (go_at_call 53; refine T.out.mono ?_; rintro e w4 ⟨rfl, h4, a4⟩; have HP4 := Lib.hid (HP1.out.get h4 a4); have HP5 := Lib.hid (HP4.out.set 14 (.int .i64 (x : Int))); have d0 := HP4.out.bu.cell 14; have f0 := HP4.out.bu.frozen 14; clear h4 a4)
          | fail)
        go_meet
        rw [HQ.out, ← HY.out]
        exact HP5.out
      · obtain rfl : t = false := by rw [hb, decide_eq_false hc]
        have HY := Lib.hid (mw6_no (q := n) (V := V) hc)
        have HQ := Lib.hid (pw6_no (q := n) (V := V) hc)
        clear hb hc HTB
        go_wp2_with fail
        go_meet
        rw [HQ.out, ← HY.out]
        exact HP.out
    case rest =>
    replace HP := Lib.hid hcut
    clear hcut HTB
    obtain ⟨t, ht⟩ : ∃ t, t = decide (116 ∈ s) := ⟨_, rfl⟩
    have HH := Lib.hid (HHAS.out 116)
    rw [← ht] at HH
    have HTB := Lib.hid ht
    clear ht
    go_upto_if 107 with (first
      | (go_at_call 44; refine (HH.out _).mono ?_; rintro e w3 ⟨rfl, rfl⟩)
      | fail)
    clear HH
    go_cut [] (fun w9 => QmS w z u c n V (pw7 n V s) G Z (mc (mw7 n V s) nilV) w9)
    case first =>
      as_aux_lemma =>
      have hb := HTB.out
      by_cases hc : 116 ∈ s
      · obtain rfl : t = true := by rw [hb, decide_eq_true hc]
        have HY := Lib.hid (mw7_yes (q := n) (V := V) hc)
        have HQ := Lib.hid (pw7_yes (q := n) (V := V) hc)
        obtain ⟨A', hA⟩ : ∃ A, A = pw6 n V s := ⟨_, rfl⟩
        have HP1 := HP
        rw [← hA] at HY HQ HP1
        have T := Lib.hid (HP1.out.xs.textp)
        obtain ⟨x, hx⟩ : ∃ x, x = txT n V A' := ⟨_, rfl⟩
        rw [← hx] at T HY
        clear hb hc HTB hA hx
        go_wp2_with (first
          | (go_at_call 55; refine T.out.mono ?_; rintro e w4 ⟨rfl, h4, a4⟩; have HP4 := Lib.hid (HP1.out.get h4 a4); have HP5 := Lib.hid (HP4.out.set 15 (.string x)); have d0 := HP4.out.bu.cell 15; have f0 := HP4.out.bu.frozen 15; clear h4 a4)
          | fail)
        go_meet
        rw [HQ.out, ← HY.out]
        exact HP5.out
      · obtain rfl : t = false := by rw [hb, decide_eq_false hc]
        have HY := Lib.hid (mw7_no (q := n) (V := V) hc)
        have HQ := Lib.hid (pw7_no (q := n) (V := V) hc)
        clear hb hc HTB
        go_wp2_with fail
        go_meet
        rw [HQ.out, ← HY.out]
        exact HP.out
    case rest =>
    replace HP := Lib.hid hcut
    clear hcut HTB
    obtain ⟨t, ht⟩ : ∃ t, t = decide (118 ∈ s) := ⟨_, rfl⟩
    have HH := Lib.hid (HHAS.out 118)
    rw [← ht] at HH
    have HTB := Lib.hid ht
    clear ht
    go_upto_if 112 with (first
      | (go_at_call 44; refine (HH.out _).mono ?_; rintro e w3 ⟨rfl, rfl⟩)
      | fail)
    clear HH
    go_cut [] (fun w9 => QmS w z u c n V (pw8 n V s) G Z (mc (mw8 n V s) nilV) w9)
    case first =>
      as_aux_lemma =>
      have hb := HTB.out
      by_cases hc : 118 ∈ s
      · obtain rfl : t = true := by rw [hb, decide_eq_true hc]
        have HY := Lib.hid (mw8_yes (q := n) (V := V) hc)
        have HQ := Lib.hid (pw8_yes (q := n) (V := V) hc)
        obtain ⟨A', hA⟩ : ∃ A, A = pw7 n V s := ⟨_, rfl⟩
        have HP1 := HP
        rw [← hA] at HY HQ HP1
        have T := Lib.hid (HP1.out.xs.getx 40 (by decide))
        obtain ⟨x, hx⟩ : ∃ x, x = getT n V A' 40 := ⟨_, rfl⟩
        rw [← hx] at T HY
        clear hb hc HTB hA hx
        go_wp2_with (first
          | (go_at_call 53; refine T.out.mono ?_; rintro e w4 ⟨rfl, h4, a4⟩; have HP4 := Lib.hid (HP1.out.get h4 a4); have HP5 := Lib.hid (HP4.out.set 16 (.int .u64 (x : Int))); have d0 := HP4.out.bu.cell 16; have f0 := HP4.out.bu.frozen 16; clear h4 a4)
          | fail)
        go_meet
        rw [HQ.out, ← HY.out]
        exact HP5.out
      · obtain rfl : t = false := by rw [hb, decide_eq_false hc]
        have HY := Lib.hid (mw8_no (q := n) (V := V) hc)
        have HQ := Lib.hid (pw8_no (q := n) (V := V) hc)
        clear hb hc HTB
        go_wp2_with fail
        go_meet
        rw [HQ.out, ← HY.out]
        exact HP.out
    case rest =>
    replace HP := Lib.hid hcut
    clear hcut HTB
    obtain ⟨t, ht⟩ : ∃ t, t = decide (101 ∈ s) := ⟨_, rfl⟩
    have HH := Lib.hid (HHAS.out 101)
    rw [← ht] at HH
    have HTB := Lib.hid ht
    clear ht
    go_upto_if 117 with (first
      | (go_at_call 44; refine (HH.out _).mono ?_; rintro e w3 ⟨rfl, rfl⟩)
      | fail)
    clear HH HHAS
    rw [mw_all] at HP
    obtain ⟨m, hm⟩ : ∃ m, m = rdW n V s := ⟨_, rfl⟩
    have HMM := Lib.hid hm
    rw [← hm] at HP HEN HYES HISN HISY
    clear hm
    go_cut [] (fun w9 => ∃ v, QmS w z u c n V (endX n V s) G Z (mc m v) w9 ∧ EnR7 w9 v m.en ∧ ∀ j, v.ownBlock = some j → j ≠ z)
    case first =>
      as_aux_lemma =>
      have hb := HTB.out
      by_cases hc : 101 ∈ s
      · obtain rfl : t = true := by rw [hb, decide_eq_true hc]
        have HQ := Lib.hid (show endX n V s = pwE n V (pw8 n V s + 5) (getT n V (pw8 n V s) 5) by unfold endX cntW; rw [if_pos hc, if_pos hc])
        have HME := Lib.hid (show m.en = enW n V (pw8 n V s + 5) (getT n V (pw8 n V s) 5) by rw [HMM.out]; show enW n V (pw8 n V s + 5) (cntW n V s) = _; unfold cntW; rw [if_pos hc])
        obtain ⟨N, hN⟩ : ∃ N, N = getT n V (pw8 n V s) 5 := ⟨_, rfl⟩
        obtain ⟨p, hp⟩ : ∃ p, p = pw8 n V s + 5 := ⟨_, rfl⟩
        have T := Lib.hid (HP.out.xs.getx 5 (by decide))
        have ew := wrap_getT n V (pw8 n V s) 5 (by decide)
        have hN32 : (N : Int) ≤ 31 := by have := getT_lt n V (pw8 n V s) 5; omega
        rw [← hN, ← hp] at T HQ HME
        rw [← hN] at ew
        clear hb hc HTB hN hp HEN HYES HISN HISY HEND HMM
        go_upto_region 32 with (first
          | (go_at_call 53; refine T.out.mono ?_; rintro e w4 ⟨rfl, h4, a4⟩; have HP4 := Lib.hid (HP.out.get h4 a4); clear h4 a4)
          | fail)
        have HE0 := Lib.hid (show EnG w4 (fun j => (G j ∨ j = u) ∨ j = z) [] (.slice none 0 0) w4 from EnG.nil (fun j hj => by
          rcases hj with (h | h) | h
          · exact HP4.out.xs.bd j h
          · rw [h]; exact HP4.out.bu.lt
          · rw [h]; exact HP4.out.bz.lt) (Nat.le_refl _))
        have HWL := Lib.hid HP4.out.ad.size
        have HZL := Lib.hid HP4.out.bz.lt
        clear HP T
        go_wp2_with fail
        go_loopw [8] (QwL w w4 z u c n V p N G Z m) (fun t _ => N - (intOf t).toNat)
        case atStart => exact ⟨0, nilV, rfl, Nat.zero_le _, HP4.out, HE0.out⟩
        case round =>
          obtain ⟨k, v, rfl, hk, hS, hE⟩ := hrel
          have hf := hE.form
          rw [enW_len] at hf
          obtain ⟨A3, c3, rfl⟩ := hf
          have HSk := Lib.hid hS
          have HEk := Lib.hid hE
          clear hS hE HP4 HE0
          by_cases hlt : k < N
          · obtain ⟨P, hP⟩ : ∃ P, P = pwE n V p k := ⟨_, rfl⟩
            obtain ⟨sz, hsz⟩ : ∃ s, s = txT n V P := ⟨_, rfl⟩
            obtain ⟨Q, hQ⟩ : ∃ Q, Q = ptT n V P := ⟨_, rfl⟩
            obtain ⟨i, hi⟩ : ∃ i, i = getT n V Q 6 := ⟨_, rfl⟩
            obtain ⟨g, hg⟩ : ∃ g, g = getT n V (Q + 6) 31 := ⟨_, rfl⟩
            obtain ⟨d, hd⟩ : ∃ d, d = getT n V (Q + 37) 2 := ⟨_, rfl⟩
            have HNX := Lib.hid (show enW n V p (k + 1) = enW n V p k ++ [⟨sz, (i : Int), (g : Int), (d : Int)⟩] by rw [enW_succ, ← hP, hsz, hi, hg, hd, hQ]; rfl)
            have HPX := Lib.hid (show pwE n V p (k + 1) = Q + 39 by show ptT n V (pwE n V p k) + 39 = _; rw [← hP, hQ])
            have T0 := Lib.hid (fun (w : World) (h : XT w G c n V P) => h.textp)
            have T1 := Lib.hid (fun (w : World) (h : XT w G c n V Q) => h.gotf)
            have T2 := Lib.hid (fun (w : World) (h : XT w G c n V (Q + 37)) => h.getx 2 (by decide))
            have ed := wrap_getT n V (Q + 37) 2 (by decide)
            have HSZ := Lib.hid (show sz.size ≤ maxLen by rw [hsz]; have := txT_lt n V P; unfold maxLen; omega)
            rw [← hsz, ← hQ] at T0
            unfold flV at T1
            rw [← hi, ← hg] at T1
            rw [← hd] at T2 ed
            rw [← hP] at HSk
            have HLT := Lib.hid hlt
            have HLEN := Lib.hid (enW_len n V p k)
            obtain ⟨L, hL⟩ : ∃ L, L = enW n V p k := ⟨_, rfl⟩
            rw [← hL] at HEk HNX HLEN
            have HB1 := Lib.hid (built_en1 sz)
            have HIE := Lib.hid infoEntry
            obtain ⟨E0, hE0⟩ : ∃ E : Array Value, E = ea ⟨⟨#[]⟩, 0, 0, 0⟩ := ⟨_, rfl⟩
            have HE0S := Lib.hid (show E0.size = 4 by rw [hE0]; rfl)
            rw [show (#[.string ⟨#[]⟩, .int .i64 0, .int .i64 0, .int .i64 0] : Array Value) = E0 from hE0.symm] at HIE
            obtain ⟨E1, hE1⟩ : ∃ E : Array Value, E = ea ⟨sz, 0, 0, 0⟩ := ⟨_, rfl⟩
            have HE1S := Lib.hid (show E1.size = 4 by rw [hE1]; rfl)
            have HE11 := Lib.hid (show E1.all (·.oneCell') = true by rw [hE1]; exact ea_one _)
            rw [← hE1] at HB1
            obtain ⟨E2, hE2⟩ : ∃ E : Array Value, E = ea ⟨sz, (i : Int), (g : Int), 0⟩ := ⟨_, rfl⟩
            have HE12 := Lib.hid (show (E1.setIfInBounds 1 (.int .i64 (i : Int))).setIfInBounds (1 + 1) (.int .i64 (g : Int)) = E2 by rw [hE1, hE2]; rfl)
            have HE23 := Lib.hid (show E2.setIfInBounds 3 (.int .i64 (d : Int)) = ea ⟨sz, (i : Int), (g : Int), (d : Int)⟩ by rw [hE2]; rfl)
            have HE2C := Lib.hid hE2
            have hki : (k : Int) < (N : Int) := by omega
            clear hP hsz hQ hi hg hd hlt hL hk hE0 hE1 hE2 ew
            go_upto_region 38 with (first
              | (go_at_call 55; refine (T0.out _ HSk.out.xs).mono ?_; rintro e w5 ⟨rfl, h5, a5⟩; have HS5 := Lib.hid (HSk.out.get h5 a5); have HE5 := Lib.hid (HEk.out.far a5 (fun _ x => .inl (.inl x))); clear h5 a5 T0 HSk HEk)
              | (refine kop_built rfl rfl ?hbb HB1.out ?_; case hbb => kernel_rfl)
              | (refine kop_alloc rfl rfl HIE.out ?_; intro y w6 hz hb ha; have HY6 := Lib.hid hb; have HS6 := Lib.hid (HS5.out.over ha); have HE6 := Lib.hid (HE5.out.grow hz ha hb.lt); have HYG := Lib.hid (show ¬ G y ∧ y ≠ u ∧ y ≠ z ∧ w.heap.size ≤ y from ⟨fun h => by have := HS5.out.xs.bd y h; omega, fun h => by have := HS5.out.bu.lt; omega, fun h => by have := HS5.out.bz.lt; omega, Nat.le_trans HS5.out.ad.size hz⟩); clear hz hb ha HS5 HE5)
              | (refine kop_store rfl _ _ rfl y HY6.out rfl rfl sizeEn1 HE1S.out HE0S.out HE11.out ?_; intro w7 hb ha; have HY7 := Lib.hid hb; have HS7 := Lib.hid (HS6.out.far ha (fun i hi hg => HYG.out.1 (by rw [← show i = y from hi]; exact hg)) (fun e => HYG.out.2.1 (show u = y from e).symm) (fun e => HYG.out.2.2.1 (show z = y from e).symm) (fun i e => by rw [show i = y from e]; exact HYG.out.2.2.2)); have HE7 := Lib.hid (HE6.out.far ha (fun _ x => .inr x)); clear hb ha HY6 HS6 HE6)
              | (go_at_call 54; refine (T1.out _ HS7.out.xs).mono ?_; rintro e w8 ⟨rfl, h8, a8⟩; have HS8 := Lib.hid (HS7.out.get h8 a8); have HE8 := Lib.hid (HE7.out.far a8 (fun _ x => .inl (.inl (.inl x)))); have HY8 := Lib.hid (HY7.out.keep (a8.block y HY7.out.lt HYG.out.1)); clear h8 a8 T1 HS7 HE7 HY7)
              | (refine kop_storeF rfl _ _ rfl y 1 HY8.out rfl rfl (by have := HE1S.out; omega) ⟨rfl, rfl⟩ ?_; intro w9 hb ha; rw [HE12.out] at hb; have HY9 := Lib.hid hb; have HS9 := Lib.hid (HS8.out.far ha (fun i hi hg => HYG.out.1 (by rw [← show i = y from hi]; exact hg)) (fun e => HYG.out.2.1 (show u = y from e).symm) (fun e => HYG.out.2.2.1 (show z = y from e).symm) (fun i e => by rw [show i = y from e]; exact HYG.out.2.2.2)); have HE9 := Lib.hid (HE8.out.far ha (fun _ x => .inr x)); clear hb ha HY8 HS8 HE8)
              | (go_at_call 53; refine (T2.out _ HS9.out.xs).mono ?_; rintro e w10 ⟨rfl, h10, a10⟩; have hs10 := HS9.out.get h10 a10; have he10 := HE9.out.far a10 (fun _ x => .inl (.inl (.inl x))); have hy10 := HY9.out.keep (a10.block y HY9.out.lt HYG.out.1); rw [HE2C.out] at hy10; have d3 := show w10.cell? ⟨y, 3, none⟩ = some (.int .i64 0) from (hy10.cell 3).trans rfl; have f3 := hy10.frozen 3; rw [← HE2C.out] at hy10; have ha11 := (Adv.refl (One y) w10).setCell (p := ⟨y, 3, none⟩) (.inl rfl) (.int .i64 (d : Int)); have hy11 := hy10.set_ 3 (.int .i64 (d : Int)); rw [HE23.out] at hy11; have HY11 := Lib.hid hy11; have HS11 := Lib.hid (hs10.far ha11 (fun i hi hg => HYG.out.1 (by rw [← show i = y from hi]; exact hg)) (fun e => HYG.out.2.1 (show u = y from e).symm) (fun e => HYG.out.2.2.1 (show z = y from e).symm) (fun i e => by rw [show i = y from e]; exact HYG.out.2.2.2)); have HE11 := Lib.hid (he10.far ha11 (fun _ x => .inr x)); clear h10 a10 T2 HS9 HE9 HY9 hs10 he10 hy10 ha11 hy11)
              | fail)
            obtain ⟨W11, hW11⟩ : ∃ W, W = World.setCell w10 ⟨y, 3, none⟩ (.int .i64 (d : Int)) := ⟨_, rfl⟩
            rw [← hW11] at HY11 HS11 HE11 ⊢
            clear hW11 d3 f3 ed
            have s17 := HS11.out.bu.c18.c.2.2.2.2.2.2
            have ey := HY11.out.e4.all
            simp only at ey
            obtain ⟨y0, y1, y2, y3⟩ := ey
            have f17 := HS11.out.bu.frozen 17
            have HAV := Lib.hid ((Adv.refl Nul W11).alloc (.cells #[.string sz, .int .i64 (i : Int), .int .i64 (g : Int), .int .i64 (d : Int)] 54))
            have HE12' := Lib.hid (HE11.out.over HAV.out)
            have HS12 := Lib.hid (HS11.out.over HAV.out)
            have hown := HE12'.out.own
            rw [HLEN.out] at hown
            have hrd := rd_one W11 ⟨sz, (i : Int), (g : Int), (d : Int)⟩
            have HKN := Lib.hid (show k + 1 ≤ 1000 by omega)
            go_wp2_with (first
              | (at_builtin; refine wpList_append_en rfl (.tmp 138) (.tmp 140) rfl rfl rfl hown hrd (ec_one _) (by have := HKN.out; omega) ?c5)
              | fail)
            case c5 =>
              intro v' w13 hown5 hg5 hat5
              obtain ⟨hp, F2', F3', k1, k2, k3⟩ := HE12'.out.push (e := ⟨sz, (i : Int), (g : Int), (d : Int)⟩) HSZ.out (by rw [HLEN.out]; exact hown5) hg5 (by rw [World.size_alloc]; exact hat5)
              have hs13 := HS12.out.far k1 (fun q a b => k2 q a (.inl (.inl (.inl b)))) (fun a => k2 u a (.inl (.inl (.inr rfl)))) (fun a => k2 z a (.inl (.inr rfl))) (fun q a => Nat.le_trans HWL.out (k3 q a))
              rw [← HNX.out] at hp
              have hf := hp.form
              rw [enW_len] at hf
              obtain ⟨A5, c5, rfl⟩ := hf
              have f17' := hs13.bu.frozen 17
              have s17' := hs13.bu.c18.c.2.2.2.2.2.2
              have HS13 := Lib.hid (hs13.set 17 (.slice A5 (k + 1) c5))
              have HE13 := Lib.hid ((hp.less (G' := fun j => (G j ∨ j = u) ∨ j = z) (fun q a => .inl a)).far ((Adv.refl (One u) w13).setCell (p := ⟨u, 17, none⟩) (.inl rfl) (.slice A5 (k + 1) c5)) (fun q e => .inl (.inr e)))
              clear hp hs13 hown5 hg5 hat5 hown hrd k1 k2 k3 s17 f17 y0 y1 y2 y3
              go_wp2_with fail
              exact ⟨⟨k + 1, _, by go_num, HLT.out, by rw [HPX.out]; exact HS13.out, HE13.out⟩, by have := HLT.out; simp [intOf] <;> omega⟩
          · obtain rfl : k = N := by omega
            have HNZ := Lib.hid (fun j hj => show j ≠ z from fun e => by
              have := HEk.out.new_ j hj
              have := HZL.out
              omega)
            clear hlt hk
            go_wp2_with fail
            go_meet
            refine ⟨_, by rw [HQ.out]; exact HSk.out, by rw [HME.out]; exact HEk.out.rd, HNZ.out⟩
      · obtain rfl : t = false := by rw [hb, decide_eq_false hc]
        have HQ := Lib.hid (show endX n V s = pw8 n V s by unfold endX; rw [if_neg hc])
        have HME := Lib.hid (show m.en = [] by rw [HMM.out]; show enW n V (pw8 n V s + 5) (cntW n V s) = _; unfold cntW; rw [if_neg hc]; rfl)
        clear hb hc HTB HEN HYES HISN HISY HEND HMM
        go_wp2_with fail
        go_meet
        exact ⟨nilV, by rw [HQ.out]; exact HP.out, by rw [HME.out]; exact (EnO.nil _).rd, fun j hj => by cases hj⟩
    case rest =>
    obtain ⟨v, hS, hE, hNZ⟩ := hcut
    have HS := Lib.hid hS
    have HE := Lib.hid hE
    have HNZ := Lib.hid hNZ
    clear hS hE hNZ HTB HP
    have HEN2 := Lib.hid (HEN.out v _ HE.out)
    have HYE := Lib.hid (fun w' hd hE2 ha => show DecM w l (.returned (.tuple #[.agg (mc m v), .int .i64 0])) w' from HYES.out w' v hd hE2 ha)
    obtain ⟨E, hEE⟩ : ∃ E, E = mc m v := ⟨_, rfl⟩
    have HES := Lib.hid (show E.size = 18 by rw [hEE]; rfl)
    have HE1 := Lib.hid (show E.all (·.oneCell') = true by rw [hEE]; obtain ⟨a, cc, e, _⟩ := HE.out.form; rw [e]; exact mc_one _ _ _ _)
    rw [← hEE] at HS HEN2 HYE
    obtain ⟨x, hx⟩ : ∃ x, x = endT n V (endX n V s) := ⟨_, rfl⟩
    have HEX := Lib.hid (fun (w : World) (G : Nat → Prop) (b : Nat) (h : XT w G b n V (endX n V s)) => h.endx)
    rw [← hx] at HEX HEND
    clear hEE hx HEN HYES HMM
    cases hi : isM m
    · have HI := Lib.hid hi
      have HDN := Lib.hid (HISN.out (fun h => by rw [hi] at h; cases h.1))
      clear hi HISN HISY HEND HYE
      by_cases hx : x = 0
      · subst hx
        as_aux_lemma =>
        go_wp2_with (first
          | (refine kop_load rfl _ rfl u HS.out.bu rfl Try.underlying28 rfl sizeM HES.out ?_)
          | (go_at_call 22; refine HEN2.out.mono ?_; clear HEN2; rintro e w14 ⟨A14, m14, k14, F14, rfl, a14, y14, _⟩; rw [if_neg (by rw [HI.out]; exact Bool.false_ne_true)]; have HS14 := Lib.hid (HS.out.over a14); clear a14 y14)
          | (go_at_call 56; refine (HEX.out _ _ _ HS14.out.xs).mono ?_; clear HEX; rintro e w15 ⟨rfl, rfl⟩)
          | (refine kop_zero HBU.out rfl rfl ?_)
          | (refine kop_store rfl _ _ rfl z HS14.out.bz rfl rfl sizeM HZS.out HZS.out HZ1.out ?_; intro w16 hb ha; have HB16 := Lib.hid hb; have HA16 := Lib.hid ((HS14.out.ad.nul).fresh HS14.out.nz ha); clear hb ha)
          | fail)
        exact bodyPost_ret (kres2 (v := .int .i64 4) rfl _ _ rfl rfl HB16.out Try.underlying28 rfl (by rw [sizeM, HZS.out])) rfl (HNO.out _ HDN.out HA16.out)
      · have hxb : (x != 0) = true := by rw [bne_iff_ne]; exact hx
        clear hx
        as_aux_lemma =>
        go_wp2_with (first
          | (refine kop_load rfl _ rfl u HS.out.bu rfl Try.underlying28 rfl sizeM HES.out ?_)
          | (go_at_call 22; refine HEN2.out.mono ?_; clear HEN2; rintro e w14 ⟨A14, m14, k14, F14, rfl, a14, y14, _⟩; rw [if_neg (by rw [HI.out]; exact Bool.false_ne_true)]; have HS14 := Lib.hid (HS.out.over a14); clear a14 y14)
          | (go_at_call 56; refine (HEX.out _ _ _ HS14.out.xs).mono ?_; clear HEX; rintro e w15 ⟨rfl, rfl⟩)
          | (refine kop_zero HBU.out rfl rfl ?_)
          | (refine kop_store rfl _ _ rfl z HS14.out.bz rfl rfl sizeM HZS.out HZS.out HZ1.out ?_; intro w16 hb ha; have HB16 := Lib.hid hb; have HA16 := Lib.hid ((HS14.out.ad.nul).fresh HS14.out.nz ha); clear hb ha)
          | fail)
        exact bodyPost_ret (kres2 (v := .int .i64 4) rfl _ _ rfl rfl HB16.out Try.underlying28 rfl (by rw [sizeM, HZS.out])) rfl (HNO.out _ HDN.out HA16.out)
    · have HI := Lib.hid hi
      by_cases hx : x = 0
      · subst hx
        by_cases hq : wiB m = l
        · have HDY := Lib.hid (HISY.out hi hq)
          have HQ := Lib.hid (decide_eq_true hq.symm)
          clear hi hq HISN HISY HEND HNO
          as_aux_lemma =>
          go_wp2_with (first
            | (refine kop_load rfl _ rfl u HS.out.bu rfl Try.underlying28 rfl sizeM HES.out ?_)
            | (go_at_call 22; refine HEN2.out.mono ?_; clear HEN2; rintro e w14 ⟨A14, m14, k14, F14, rfl, a14, y14, _⟩; obtain ⟨rfl, s14⟩ := y14 HI.out; rw [if_pos HI.out]; have HS14 := Lib.hid (HS.out.over a14); have HL14 := Lib.hid s14; have HR14 := Lib.hid (HR.out.far (fun k _ _ hk => HS14.out.ad.nul.block k hk (fun h => h)) HS14.out.ad.nul.size); have HE14 := Lib.hid (HE.out.step a14); clear a14 y14 s14)
            | (go_at_call 56; refine (HEX.out _ _ _ HS14.out.xs).mono ?_; clear HEX; rintro e w15 ⟨rfl, rfl⟩)
            | (go_at_call 23; refine (isame_any _ _ _ _ _ _ _ HR14.out HL14.out.rd).mono ?_; rintro e w15 ⟨rfl, j15, rfl⟩; rw [HQ.out])
            | (refine kop_load rfl _ rfl u (HS14.out.bu.keep (drewNW_keep _ _)) rfl Try.underlying28 rfl sizeM HES.out ?_)
            | (refine kop_store rfl _ _ rfl z (HS14.out.bz.keep (drewNW_keep _ _)) rfl rfl sizeM HES.out HZS.out HE1.out ?_; intro w16 hb ha; have HB16 := Lib.hid hb; have HA16 := Lib.hid (((HS14.out.ad.nul).drewN _).fresh HS14.out.nz ha); have HE16 := Lib.hid (show EnR7 w16 v m.en from ⟨HE14.out.rd.far (fun j hj _ hl => (ha.block j hl (fun e => HNZ.out j hj e)).trans rfl) ha.size, HE14.out.sz⟩); clear hb ha)
            | fail)
          exact bodyPost_ret (kres2 (v := .int .i64 0) rfl _ _ rfl rfl HB16.out Try.underlying28 rfl (by rw [sizeM, HES.out])) rfl (HYE.out _ HDY.out HE16.out HA16.out)
        · have HDN := Lib.hid (HISN.out (fun h => hq h.2))
          have HQ := Lib.hid (decide_eq_false (fun e : l = wiB m => hq e.symm))
          clear hi hq HISN HISY HEND HYE
          as_aux_lemma =>
          go_wp2_with (first
            | (refine kop_load rfl _ rfl u HS.out.bu rfl Try.underlying28 rfl sizeM HES.out ?_)
            | (go_at_call 22; refine HEN2.out.mono ?_; clear HEN2; rintro e w14 ⟨A14, m14, k14, F14, rfl, a14, y14, _⟩; obtain ⟨rfl, s14⟩ := y14 HI.out; rw [if_pos HI.out]; have HS14 := Lib.hid (HS.out.over a14); have HL14 := Lib.hid s14; have HR14 := Lib.hid (HR.out.far (fun k _ _ hk => HS14.out.ad.nul.block k hk (fun h => h)) HS14.out.ad.nul.size); have HE14 := Lib.hid (HE.out.step a14); clear a14 y14 s14)
            | (go_at_call 56; refine (HEX.out _ _ _ HS14.out.xs).mono ?_; clear HEX; rintro e w15 ⟨rfl, rfl⟩)
            | (go_at_call 23; refine (isame_any _ _ _ _ _ _ _ HR14.out HL14.out.rd).mono ?_; rintro e w15 ⟨rfl, j15, rfl⟩; rw [HQ.out])
            | (refine kop_zero HBU.out rfl rfl ?_)
            | (refine kop_store rfl _ _ rfl z (HS14.out.bz.keep (drewNW_keep _ _)) rfl rfl sizeM HZS.out HZS.out HZ1.out ?_; intro w16 hb ha; have HB16 := Lib.hid hb; have HA16 := Lib.hid (((HS14.out.ad.nul).drewN _).fresh HS14.out.nz ha); clear hb ha)
            | fail)
          exact bodyPost_ret (kres2 (v := .int .i64 4) rfl _ _ rfl rfl HB16.out Try.underlying28 rfl (by rw [sizeM, HZS.out])) rfl (HNO.out _ HDN.out HA16.out)
      · have HDN := Lib.hid (HEND.out hx)
        have hxb : (x != 0) = true := by rw [bne_iff_ne]; exact hx
        clear hi hx HISN HISY HEND HYE
        as_aux_lemma =>
        go_wp2_with (first
          | (refine kop_load rfl _ rfl u HS.out.bu rfl Try.underlying28 rfl sizeM HES.out ?_)
          | (go_at_call 22; refine HEN2.out.mono ?_; clear HEN2; rintro e w14 ⟨A14, m14, k14, F14, rfl, a14, y14, _⟩; obtain ⟨rfl, s14⟩ := y14 HI.out; rw [if_pos HI.out]; have HS14 := Lib.hid (HS.out.over a14); have HL14 := Lib.hid s14; have HR14 := Lib.hid (HR.out.far (fun k _ _ hk => HS14.out.ad.nul.block k hk (fun h => h)) HS14.out.ad.nul.size); have HE14 := Lib.hid (HE.out.step a14); clear a14 y14 s14)
          | (go_at_call 56; refine (HEX.out _ _ _ HS14.out.xs).mono ?_; clear HEX; rintro e w15 ⟨rfl, rfl⟩)
          | (refine kop_zero HBU.out rfl rfl ?_)
          | (refine kop_store rfl _ _ rfl z HS14.out.bz rfl rfl sizeM HZS.out HZS.out HZ1.out ?_; intro w16 hb ha; have HB16 := Lib.hid hb; have HA16 := Lib.hid ((HS14.out.ad.nul).fresh HS14.out.nz ha); clear hb ha)
          | fail)
        exact bodyPost_ret (kres2 (v := .int .i64 4) rfl _ _ rfl rfl HB16.out Try.underlying28 rfl (by rw [sizeM, HZS.out])) rfl (HNO.out _ HDN.out HA16.out)
end Go.Proofs.Ytpgeebhepegpaaa
