/- The document's Decode of a slot, walked. -/
import Derived.Test.YtbjenpkgcdppaaaStG
namespace Go.Proofs.Ytbjenpkgcdppaaa
open Go.ChangeShapes Go.WideShapes Go.ChangeAt Go.RowKit

set_option maxRecDepth 3000 in
theorem tcell_far {w : World} {b u o k : Nat} {v : Value} (h : u ≠ b) : (w.setCell ⟨u, k, none⟩ v).cell? ⟨b, o, none⟩ = w.cell? ⟨b, o, none⟩ := World.cell?_setCell_other w _ _ _ (fun e => h (congrArg Addr.block e))
set_option maxRecDepth 3000 in
theorem tcell_keep {w w' : World} {b o : Nat} {v : Value} {F : Nat → Prop} (h : w.cell? ⟨b, o, none⟩ = some v) (ha : Adv Nul w F w') : w'.cell? ⟨b, o, none⟩ = some v := (World.cell?_of_block (w := w) (ha.block b (World.block_lt_of_cell? w _ h) (fun h => h))).trans h
set_option maxRecDepth 3000 in
theorem drewN_keep (w : World) (n : Nat) {g : Nat} : (w.drewN n).heap[g]? = w.heap[g]? := rfl
set_option maxRecDepth 3000 in
set_option maxHeartbeats 3200000 in
theorem qsdecode_any (v : Value) (l : List Nat) (w : World) (h : In w v l) (h140 : l.length ≤ 140) : Calls Try.prog 16 #[v] w (DecT w l) := by
  obtain ⟨n, hn⟩ : ∃ n, n = l.length := ⟨_, rfl⟩
  have HIN := Lib.hid (h.num hn)
  have hrd := h.rd
  rw [← hn] at hrd
  obtain ⟨A, c, rfl, hc1, hc2⟩ := hrd.form
  have HR := Lib.hid hrd
  have HN := Lib.hid hn
  have HB := Lib.hid h.lt
  have H140 := Lib.hid (show n ≤ 140 by rw [hn]; exact h140)
  clear hc1 hc2 hrd
  obtain ⟨V, hVN⟩ : ∃ V, V = byN l := ⟨_, rfl⟩
  have HOF := Lib.hid (fun (w' : World) (ha : Adv Nul w Nul w') => show Calls Try.prog 31 #[.slice A n c] w' fun e w'' => ∃ v' F bl, e = .returned v' ∧ Sl w'' F 5 1 v' (8 * n) (bl.map u8) ∧ Bl bl V (8 * n) ∧ Adv Nul w' F w'' by rw [hVN]; exact of_any _ n l w' (HIN.out.far ha.toBelow) (by have := H140.out; omega))
  obtain ⟨x, hx⟩ : ∃ x, x = pQ n V := ⟨_, rfl⟩
  have HEN := Lib.hid (qsencode_any x (by rw [hx]; exact pQ_wf _ _ H140.out))
  have HYES := Lib.hid (show isT x → l = secT x → decT l = some x by rw [hx, hn, hVN]; exact dq_yes)
  have HNON := Lib.hid (show ¬ (erT n V 82 = 0 ∧ isT x ∧ l = secT x) → decT l = none by rw [hx, hn, hVN]; exact dq_no)
  have HRES := Lib.hid (fun (w' : World) => @DecT.yes w w' l x)
  have HNO := Lib.hid (fun (w' : World) => @DecT.no w w' l)
  obtain ⟨Z, hZ⟩ : ∃ C, C = tc zeroT := ⟨_, rfl⟩
  have HZ := Lib.hid hZ
  have HZS := Lib.hid (show Z.size = 7 by rw [hZ]; rfl)
  have HZ1 := Lib.hid (show Z.all (·.oneCell') = true by rw [hZ]; exact tc_one _)
  have HI := Lib.hid infoQT
  have HBU := Lib.hid builtQT
  rw [← hZ] at HI HBU HNO
  obtain ⟨C, hC⟩ : ∃ C, C = tc x := ⟨_, rfl⟩
  have HCS := Lib.hid (show C.size = 7 by rw [hC]; rfl)
  have HC1 := Lib.hid (show C.all (·.oneCell') = true by rw [hC]; exact tc_one _)
  obtain ⟨p0, hp0⟩ : ∃ p, p = getT n V 0 1 := ⟨_, rfl⟩
  obtain ⟨p1, hp1⟩ : ∃ p, p = getT n V 1 1 := ⟨_, rfl⟩
  obtain ⟨p2, hp2⟩ : ∃ p, p = getT n V 2 6 := ⟨_, rfl⟩
  obtain ⟨p3, hp3⟩ : ∃ p, p = getT n V 8 31 := ⟨_, rfl⟩
  obtain ⟨p4, hp4⟩ : ∃ p, p = getT n V 39 3 := ⟨_, rfl⟩
  obtain ⟨p5, hp5⟩ : ∃ p, p = getT n V 42 40 := ⟨_, rfl⟩
  obtain ⟨tx6, hp6⟩ : ∃ p, p = txT n V 82 := ⟨_, rfl⟩
  obtain ⟨er, her⟩ : ∃ p, p = erT n V 82 := ⟨_, rfl⟩
  have e2 : wrap64 (p2 : Int) = (p2 : Int) := by have := getT_lt n V 2 6; unfold wrap64; omega
  have e3 : wrap64 (p3 : Int) = (p3 : Int) := by have := getT_lt n V 8 31; unfold wrap64; omega
  have e4 : wrap64 (p4 : Int) = (p4 : Int) := by have := getT_lt n V 39 3; unfold wrap64; omega
  have HCL := Lib.hid (show #[.bool ((p0 : Int) == 1), .int .i64 p2, .int .i64 p3, .int .i64 p4, .int .u64 (p5 : Int), .bool ((p1 : Int) == 1), .string tx6] = C by rw [hC, hx, hp0, hp1, hp2, hp3, hp4, hp5, hp6]; rfl)
  have HG := Lib.hid (fun (w : World) (G : Nat → Prop) (b a m : Nat) (h : XT w G b n V a) (hm : m ≤ 64) => h.getx m hm)
  have HT := Lib.hid (fun (w : World) (G : Nat → Prop) (b : Nat) (h : XT w G b n V 82) => h.textx)
  have HER := Lib.hid (show er = 0 ∨ er = 3 by rw [her]; unfold erT; split; exact .inl rfl; exact .inr rfl)
  rw [← her] at HNON HT
  rw [← hp6] at HT
  rw [← hC] at HEN HRES
  have G0 := Lib.hid (show ∀ (w : World) (G : Nat → Prop) (b : Nat) (h : XT w G b n V 0), Calls Try.prog 32 #[.pointer (some ⟨b, 0, none⟩), .int .i64 1] w fun e w' => e = .returned (.int .u64 (p0 : Int)) ∧ XT w' G b n V 1 ∧ Adv G w G w' by rw [hp0]; exact fun w G b h => h.getx 1 (by decide))
  have G1 := Lib.hid (show ∀ (w : World) (G : Nat → Prop) (b : Nat) (h : XT w G b n V 1), Calls Try.prog 32 #[.pointer (some ⟨b, 0, none⟩), .int .i64 1] w fun e w' => e = .returned (.int .u64 (p1 : Int)) ∧ XT w' G b n V 2 ∧ Adv G w G w' by rw [hp1]; exact fun w G b h => h.getx 1 (by decide))
  have G2 := Lib.hid (show ∀ (w : World) (G : Nat → Prop) (b : Nat) (h : XT w G b n V 2), Calls Try.prog 32 #[.pointer (some ⟨b, 0, none⟩), .int .i64 6] w fun e w' => e = .returned (.int .u64 (p2 : Int)) ∧ XT w' G b n V 8 ∧ Adv G w G w' by rw [hp2]; exact fun w G b h => h.getx 6 (by decide))
  have G3 := Lib.hid (show ∀ (w : World) (G : Nat → Prop) (b : Nat) (h : XT w G b n V 8), Calls Try.prog 32 #[.pointer (some ⟨b, 0, none⟩), .int .i64 31] w fun e w' => e = .returned (.int .u64 (p3 : Int)) ∧ XT w' G b n V 39 ∧ Adv G w G w' by rw [hp3]; exact fun w G b h => h.getx 31 (by decide))
  have G4 := Lib.hid (show ∀ (w : World) (G : Nat → Prop) (b : Nat) (h : XT w G b n V 39), Calls Try.prog 32 #[.pointer (some ⟨b, 0, none⟩), .int .i64 3] w fun e w' => e = .returned (.int .u64 (p4 : Int)) ∧ XT w' G b n V 42 ∧ Adv G w G w' by rw [hp4]; exact fun w G b h => h.getx 3 (by decide))
  have G5 := Lib.hid (show ∀ (w : World) (G : Nat → Prop) (b : Nat) (h : XT w G b n V 42), Calls Try.prog 32 #[.pointer (some ⟨b, 0, none⟩), .int .i64 40] w fun e w' => e = .returned (.int .u64 (p5 : Int)) ∧ XT w' G b n V 82 ∧ Adv G w G w' by rw [hp5]; exact fun w G b h => h.getx 40 (by decide))
  clear hn h hZ hVN hx hC hp0 hp1 hp2 hp3 hp4 hp5 hp6 her HG h140
  go_enter Try.func16, Try.ntmps16
  go_upto_region 3 with (first
    | (refine kop_alloc rfl rfl HI.out ?_; intro z w1 hz hb ha; have HZZ := Lib.hid hz; have HBZ := Lib.hid hb; have HA1 := Lib.hid ((Adv.refl Nul w).trans ha); clear hz hb ha)
    | (go_at_call 31; refine (HOF.out _ HA1.out).mono ?_; rintro e w2 ⟨v2, F2, bl, rfl, s2, b2, a2⟩; obtain ⟨A2, c2, rfl, _, _⟩ := s2.form0; have HBZ2 := Lib.hid (HBZ.out.over a2); have HA2 := Lib.hid (HA1.out.trans a2); have HS2 := Lib.hid s2; have HB2 := Lib.hid b2; have HF2 := Lib.hid (show ¬ F2 z from fun h => by rcases a2.into z h with h | h; exact h.elim; exact absurd HBZ.out.lt (by omega)); clear s2 b2 a2)
    | (refine kop_box rfl _ rfl rfl ?_; intro b w3 hz hb ha; have HX3 := Lib.hid (xt_new HS2.out HB2.out HA2.out hb ha hz); have HBZ3 := Lib.hid (HBZ2.out.over ha); have HFZ := Lib.hid (show ¬ (F2 z ∨ z = b) from fun h => h.elim HF2.out (fun e => by have := HBZ2.out.lt; omega)); clear hz hb ha)
    | (go_at_call 32; refine (G0.out _ _ _ HX3.out.1).mono ?_; clear G0; rintro e w4 ⟨rfl, x4, a4⟩; have HX4 := Lib.hid x4; have HA4 := Lib.hid (HX3.out.2.trans a4); have HBZ4 := Lib.hid (HBZ3.out.keep (a4.block z HBZ3.out.lt HFZ.out)); clear x4 a4)
    | (refine kop_alloc rfl rfl HI.out ?_; intro u w5 hz hb ha; have HUU := Lib.hid (Nat.le_trans HA4.out.size hz); have HBU5 := Lib.hid hb; have HA5 := Lib.hid (HA4.out.over ha); have HBZ5 := Lib.hid (HBZ4.out.over ha); have HX5 := Lib.hid (HX4.out.far ha (fun _ h => h.elim)); have HNE := Lib.hid (show u ≠ z from fun e => by have := HBZ4.out.lt; omega); have HFU := Lib.hid (show ¬ (F2 u ∨ u = b) from fun h => by have := HX4.out.bd u h; omega); clear hz hb ha)
    | (refine kop_store rfl _ _ rfl u HBU5.out rfl rfl sizeQT rfl HZS.out (by simp [Value.oneCell']) ?_; intro w6 hb ha; have HS := Lib.hid (show QdS w z u b n V 1 (fun j => F2 j ∨ j = b) _ w6 from ⟨HX5.out.far ha (fun i hi hg => HFU.out (by rw [← show i = u from hi]; exact hg)), hb, by rw [← HZ.out]; exact HBZ5.out.far1 ha (fun e => HNE.out e.symm), ⟨ha.os.trans HA5.out.os, ha.tape.trans HA5.out.tape, ha.output.trans HA5.out.output, Nat.le_trans HA5.out.size ha.size, fun i hi hn => (ha.block i (Nat.lt_of_lt_of_le hi HA5.out.size) (fun e => by have := HUU.out; unfold One at e; omega)).trans (HA5.out.block i hi hn), HA5.out.into⟩, HFU.out, HFZ.out, HNE.out, HUU.out, HZZ.out⟩); clear hb ha HX5 HBU5 HA5 HBZ5)
    | fail)
  go_upto_region 9 with (first
    | (go_at_call 32; refine (G1.out _ _ _ HS.out.xs).mono ?_; clear G1; rintro e w7 ⟨rfl, x7, a7⟩; have HS7 := Lib.hid ((HS.out.get x7 a7).set 5 (.bool ((p1 : Int) == 1))); have hB7 := (HS.out.get x7 a7).bu; have d5 := hB7.cell 5; have f5 := hB7.frozen 5; clear x7 a7 hB7 HS)
    | (go_at_call 32; refine (G2.out _ _ _ HS7.out.xs).mono ?_; clear G2; rintro e w8 ⟨rfl, x8, a8⟩; have HS8 := Lib.hid ((HS7.out.get x8 a8).set 1 (.int .i64 (p2 : Int))); have hB8 := (HS7.out.get x8 a8).bu; have d1 := hB8.cell 1; have f1 := hB8.frozen 1; clear x8 a8 hB8 HS7)
    | (go_at_call 32; refine (G3.out _ _ _ HS8.out.xs).mono ?_; clear G3; rintro e w9 ⟨rfl, x9, a9⟩; have HS9 := Lib.hid ((HS8.out.get x9 a9).set 2 (.int .i64 (p3 : Int))); have hB9 := (HS8.out.get x9 a9).bu; have d2 := hB9.cell 2; have f2 := hB9.frozen 2; clear x9 a9 hB9 HS8)
    | (go_at_call 32; refine (G4.out _ _ _ HS9.out.xs).mono ?_; clear G4; rintro e w10 ⟨rfl, x10, a10⟩; have HS10 := Lib.hid ((HS9.out.get x10 a10).set 3 (.int .i64 (p4 : Int))); have hB10 := (HS9.out.get x10 a10).bu; have d3 := hB10.cell 3; have f3 := hB10.frozen 3; clear x10 a10 hB10 HS9)
    | (go_at_call 32; refine (G5.out _ _ _ HS10.out.xs).mono ?_; clear G5; rintro e w11 ⟨rfl, x11, a11⟩; have HS11 := Lib.hid ((HS10.out.get x11 a11).set 4 (.int .u64 (p5 : Int))); have hB11 := (HS10.out.get x11 a11).bu; have d4 := hB11.cell 4; have f4 := hB11.frozen 4; clear x11 a11 hB11 HS10)
    | (go_at_call 33; refine (HT.out _ _ _ HS11.out.xs).mono ?_; rintro e w12 ⟨rfl, ⟨k12, g12⟩, a12⟩; have hB12 := HS11.out.bu.keep (a12.block u HS11.out.bu.lt HS11.out.fu); have d6 := hB12.cell 6; have f6 := hB12.frozen 6; have HB12 := Lib.hid (show Blk _ u 28 C by rw [← HCL.out]; exact hB12.set_ 6 (.string tx6)); have HZ12 := Lib.hid ((HS11.out.bz.keep (a12.block z HS11.out.bz.lt HS11.out.fz)).far (p := ⟨u, 6, none⟩) (fun e => HS11.out.uz e.symm) (.string tx6)); have HA12 := Lib.hid (((HS11.out.ad.trans a12).setCell (p := ⟨u, 6, none⟩) (.inr HS11.out.nu) (.string tx6))); have HE12 := Lib.hid (show (World.setCell w12 ⟨u, 6, none⟩ (.string tx6)).cell? ⟨b, 1, none⟩ = some (.int .i64 er) from (by rw [← k12]; exact tcell_far (fun e => HFU.out (.inr e)))); clear k12 g12 a12 hB12 HS11)
    | fail)
  obtain ⟨W12, hW12⟩ : ∃ W, W = World.setCell w12 ⟨u, 6, none⟩ (.string tx6) := ⟨_, rfl⟩
  rw [← hW12] at HB12 HZ12 HA12 HE12 ⊢
  clear hW12 d1 d2 d3 d4 d5 d6 f1 f2 f3 f4 f5 f6 HT HOF e2 e3 e4
  rcases HER.out with rfl | rfl
  · by_cases hi : isT x
    · have HOK := Lib.hid hi
      by_cases hq : l = secT x
      · have HY := Lib.hid (HYES.out hi hq)
        have HQ := Lib.hid (decide_eq_true hq)
        clear hi hq
        go_wp2_with (first
          | (refine kop_load rfl _ rfl u HB12.out rfl Try.underlying28 rfl sizeQT HCS.out ?_)
          | (go_at_call 10; refine (HEN.out _).mono ?_; rintro e w14 ⟨A14, m14, k14, F14, rfl, a14, y14, _⟩; obtain ⟨rfl, s14⟩ := y14 HOK.out; rw [if_pos HOK.out]; have HS14 := Lib.hid s14; have HR14 := Lib.hid (HR.out.far (fun k _ _ hk => (HA12.out.over a14).block k hk (fun h => h)) (HA12.out.over a14).size); clear s14; have HB14 := Lib.hid (HB12.out.over a14); have HZ14 := Lib.hid (HZ12.out.over a14); have HA14 := Lib.hid (HA12.out.over a14); have c14 := tcell_keep HE12.out a14; clear a14 y14)
          | (go_at_call 11; refine (isame_any _ _ _ _ _ _ _ HR14.out HS14.out.rd).mono ?_; rintro e w15 ⟨rfl, j15, rfl⟩; rw [HQ.out])
          | (refine kop_load rfl _ rfl u (HB14.out.keep (drewN_keep _ _)) rfl Try.underlying28 rfl sizeQT HCS.out ?_)
          | (refine kop_store rfl _ _ rfl z (HZ14.out.keep (drewN_keep _ _)) rfl rfl sizeQT HCS.out (tc_size _) HC1.out ?_; intro w16 hb ha; have HB16 := Lib.hid hb; have HA16 := Lib.hid (((HA14.out).nul.drewN _).fresh HZZ.out ha); clear hb ha)
          | fail)
        exact bodyPost_ret (kres2 (v := .int .i64 0) rfl _ _ rfl rfl HB16.out Try.underlying28 rfl (by rw [sizeQT, HCS.out])) rfl (HRES.out _ HY.out HA16.out)
      · have HNN := Lib.hid (HNON.out (fun h => hq h.2.2))
        have HQ := Lib.hid (decide_eq_false hq)
        clear hi hq
        go_wp2_with (first
          | (refine kop_load rfl _ rfl u HB12.out rfl Try.underlying28 rfl sizeQT HCS.out ?_)
          | (go_at_call 10; refine (HEN.out _).mono ?_; rintro e w14 ⟨A14, m14, k14, F14, rfl, a14, y14, _⟩; obtain ⟨rfl, s14⟩ := y14 HOK.out; rw [if_pos HOK.out]; have HS14 := Lib.hid s14; have HR14 := Lib.hid (HR.out.far (fun k _ _ hk => (HA12.out.over a14).block k hk (fun h => h)) (HA12.out.over a14).size); clear s14; have HB14 := Lib.hid (HB12.out.over a14); have HZ14 := Lib.hid (HZ12.out.over a14); have HA14 := Lib.hid (HA12.out.over a14); have c14 := tcell_keep HE12.out a14; clear a14 y14)
          | (go_at_call 11; refine (isame_any _ _ _ _ _ _ _ HR14.out HS14.out.rd).mono ?_; rintro e w15 ⟨rfl, j15, rfl⟩; rw [HQ.out])
          | (refine kop_zero HBU.out rfl rfl ?_)
          | (refine kop_store rfl _ _ rfl z (HZ14.out.keep (drewN_keep _ _)) rfl rfl sizeQT HZS.out (tc_size _) HZ1.out ?_; intro w16 hb ha; have HB16 := Lib.hid hb; have HA16 := Lib.hid ((HA14.out.drewN _).nul.fresh HZZ.out ha); clear hb ha)
          | fail)
        exact bodyPost_ret (kres2 (v := .int .i64 4) rfl _ _ rfl rfl HB16.out Try.underlying28 rfl (by rw [sizeQT, HZS.out])) rfl (HNO.out _ HNN.out HA16.out)
    · have HOK := Lib.hid hi
      have HNN := Lib.hid (HNON.out (fun h => hi h.2.1))
      clear hi
      go_wp2_with (first
        | (refine kop_load rfl _ rfl u HB12.out rfl Try.underlying28 rfl sizeQT HCS.out ?_)
        | (go_at_call 10; refine (HEN.out _).mono ?_; rintro e w14 ⟨A14, m14, k14, F14, rfl, a14, y14, _⟩; rw [if_neg HOK.out]; have HB14 := Lib.hid (HB12.out.over a14); have HZ14 := Lib.hid (HZ12.out.over a14); have HA14 := Lib.hid (HA12.out.over a14); have c14 := tcell_keep HE12.out a14; clear a14 y14)
        | (refine kop_zero HBU.out rfl rfl ?_)
        | (refine kop_store rfl _ _ rfl z HZ14.out rfl rfl sizeQT HZS.out (tc_size _) HZ1.out ?_; intro w16 hb ha; have HB16 := Lib.hid hb; have HA16 := Lib.hid ((HA14.out).nul.fresh HZZ.out ha); clear hb ha)
        | fail)
      exact bodyPost_ret (kres2 (v := .int .i64 4) rfl _ _ rfl rfl HB16.out Try.underlying28 rfl (by rw [sizeQT, HZS.out])) rfl (HNO.out _ HNN.out HA16.out)
  · have HNN := Lib.hid (HNON.out (fun h => absurd h.1 (by decide)))
    go_wp2_with (first
      | (refine kop_load rfl _ rfl u HB12.out rfl Try.underlying28 rfl sizeQT HCS.out ?_)
      | (go_at_call 10; refine (HEN.out _).mono ?_; rintro e w14 ⟨A14, m14, k14, F14, rfl, a14, y14, _⟩; have HB14 := Lib.hid (HB12.out.over a14); have HZ14 := Lib.hid (HZ12.out.over a14); have HA14 := Lib.hid (HA12.out.over a14); have c14 := tcell_keep HE12.out a14; clear a14 y14)
      | (refine kop_zero HBU.out rfl rfl ?_)
      | (refine kop_store rfl _ _ rfl z HZ14.out rfl rfl sizeQT HZS.out (tc_size _) HZ1.out ?_; intro w16 hb ha; have HB16 := Lib.hid hb; have HA16 := Lib.hid ((HA14.out).nul.fresh HZZ.out ha); clear hb ha)
      | fail)
    all_goals exact bodyPost_ret (kres2 (v := .int .i64 4) rfl _ _ rfl rfl HB16.out Try.underlying28 rfl (by rw [sizeQT, HZS.out])) rfl (HNO.out _ HNN.out HA16.out)
end Go.Proofs.Ytbjenpkgcdppaaa
