/- The program's Decode of a slot. -/
import Derived.Test.YtbjenpkgcdppaaaStC
namespace Go.Proofs.Ytbjenpkgcdppaaa
open Go.ChangeShapes Go.WideShapes Go.ChangeAt Go.RowKit

def DecT (w : World) (l : List Nat) (e : Ending) (w' : World) : Prop := e = .returned (.tuple #[.agg (tc (dT l)), .int .i64 (eT l)]) ∧ Adv Nul w Nul w'
set_option maxRecDepth 3000 in
theorem DecT.no {w w' : World} {l : List Nat} (h : decT l = none) (ha : Adv Nul w Nul w') : DecT w l (.returned (.tuple #[.agg (tc zeroT), .int .i64 4])) w' := by
  obtain ⟨h1, h2⟩ := dT_no h
  exact ⟨by rw [h1, h2], ha⟩
set_option maxRecDepth 3000 in
theorem DecT.yes {w w' : World} {l : List Nat} {x : Slt} (h : decT l = some x) (ha : Adv Nul w Nul w') : DecT w l (.returned (.tuple #[.agg (tc x), .int .i64 0])) w' := by
  obtain ⟨h1, h2⟩ := dT_yes h
  exact ⟨by rw [h1, h2], ha⟩
set_option maxRecDepth 3000 in
set_option maxHeartbeats 3200000 in
theorem sdecode_any (v : Value) (l : List Nat) (w : World) (h : Rd w 1 v l.length (l.map u8)) (hb : ∀ x ∈ l, x < 256) : Calls Try.prog 15 #[v] w (DecT w l) := by
  obtain ⟨n, hn⟩ : ∃ n, n = l.length := ⟨_, rfl⟩
  rw [← hn] at h
  obtain ⟨A, c, rfl, hc1, hc2⟩ := h.form
  clear hc1 hc2
  have HR := Lib.hid h
  have HN := Lib.hid hn
  have HB := Lib.hid hb
  obtain ⟨Z, hZ⟩ : ∃ C, C = tc zeroT := ⟨_, rfl⟩
  have HZ := Lib.hid hZ
  have HZS := Lib.hid (show Z.size = 7 by rw [hZ]; rfl)
  have HZ1 := Lib.hid (show Z.all (·.oneCell') = true by rw [hZ]; exact tc_one _)
  have HI := Lib.hid infoT
  have HBU := Lib.hid builtT
  have HNO := Lib.hid (fun w' => @DecT.no w w' l)
  rw [← hZ] at HI HBU HNO
  clear hn h hb hZ
  by_cases hn : n = 128
  · subst hn
    have HPA := Lib.hid (fun V (ha : Adv Nul w Nul V) => sparts_any _ l V (HR.out.far (fun k _ _ hk => ha.block k hk (fun h => h)) ha.size) HN.out.symm HB.out)
    obtain ⟨x, hx⟩ : ∃ x, x = prT (byN l) := ⟨_, rfl⟩
    rw [← hx] at HPA
    have HX := Lib.hid hx
    have HEN := Lib.hid (sencode_any x (by rw [hx]; exact prT_wf _))
    have HRES := Lib.hid (fun (w' : World) => @DecT.yes w w' l x)
    obtain ⟨C, hC⟩ : ∃ C, C = tc x := ⟨_, rfl⟩
    have HCS := Lib.hid (show C.size = 7 by rw [hC]; rfl)
    have HC1 := Lib.hid (show C.all (·.oneCell') = true by rw [hC]; exact tc_one _)
    rw [← hC] at HPA HEN HRES
    clear hx hC
    by_cases ho : isT x
    · have HOK := Lib.hid ho
      clear ho
      by_cases hq : secT x = l
      · have HYES := Lib.hid (show decT l = some x by unfold decT; rw [← HX.out, if_pos ⟨HN.out.symm, HOK.out, hq⟩])
        have HQ := Lib.hid (decide_eq_true hq)
        clear hq
        go_enter Try.func15, Try.ntmps15
        go_wp2_with (first
          | (refine kop_alloc rfl rfl HI.out ?_; intro z w1 hz hb ha; have HZZ := Lib.hid hz; have HBZ := Lib.hid hb; have HA1 := Lib.hid ((Adv.refl Nul w).trans ha); clear hz hb ha)
          | (go_at_call 29; refine (HPA.out _ HA1.out).mono ?_; rintro e w2 ⟨rfl, a2⟩; have HA2 := Lib.hid (HA1.out.trans a2); have HBZ2 := Lib.hid (HBZ.out.over a2); clear a2)
          | (refine kop_alloc rfl rfl HI.out ?_; intro u w3 hz hb ha; have HUU := Lib.hid (Nat.le_trans HA2.out.size hz); have HBU3 := Lib.hid hb; have HA3 := Lib.hid (HA2.out.trans ha); have HBZ3 := Lib.hid (HBZ2.out.over ha); have HNE := Lib.hid (show z ≠ u from fun e => by have := HBZ2.out.lt; omega); clear hz hb ha)
          | (refine kop_store rfl _ _ rfl u HBU3.out rfl rfl sizeT HCS.out HZS.out HC1.out ?_; intro w4 hb ha; have HBU4 := Lib.hid hb; have HA4 := Lib.hid (HA3.out.fresh HUU.out ha); have HBZ4 := Lib.hid (HBZ3.out.far1 ha HNE.out); clear hb ha HBU3)
          | (refine kop_load rfl _ rfl u HBU4.out rfl Try.underlying34 rfl sizeT HCS.out ?_)
          | (go_at_call 8; refine (HEN.out _).mono ?_; rintro e w5 ⟨A5, m5, k5, F5, rfl, a5, y5, _⟩; obtain ⟨rfl, s5⟩ := y5 HOK.out; rw [if_pos HOK.out]; have HA5 := Lib.hid (HA4.out.trans a5); have HBZ5 := Lib.hid (HBZ4.out.over a5); have HBU5 := Lib.hid (HBU4.out.over a5); have HS5 := Lib.hid s5; have HR5 := Lib.hid (HR.out.far (fun k _ _ hk => HA5.out.block k hk (fun h => h)) HA5.out.size); clear a5 y5 s5 HBU4)
          | (go_at_call 30; refine (iequal_any _ _ _ _ _ _ _ HS5.out.rd HR5.out (secT_lt _) HB.out).mono ?_; rintro e w6 ⟨rfl, rfl⟩; rw [HQ.out])
          | (refine kop_load rfl _ rfl u HBU5.out rfl Try.underlying34 rfl sizeT HCS.out ?_)
          | (refine kop_store rfl _ _ rfl z HBZ5.out rfl rfl sizeT HCS.out HZS.out HC1.out ?_; intro w7 hb ha; have HB7 := Lib.hid hb; have HA7 := Lib.hid ((HA5.out.nul).fresh HZZ.out ha); clear hb ha)
          | fail)
        exact bodyPost_ret (kres2 (v := .int .i64 0) rfl _ _ rfl rfl HB7.out Try.underlying34 rfl (by rw [sizeT, HCS.out])) rfl (HRES.out _ HYES.out HA7.out)
      · have HNN := Lib.hid (show decT l = none by unfold decT; rw [← HX.out]; exact if_neg (fun h => hq h.2.2))
        have HQ := Lib.hid (decide_eq_false hq)
        clear hq
        go_enter Try.func15, Try.ntmps15
        go_wp2_with (first
          | (refine kop_alloc rfl rfl HI.out ?_; intro z w1 hz hb ha; have HZZ := Lib.hid hz; have HBZ := Lib.hid hb; have HA1 := Lib.hid ((Adv.refl Nul w).trans ha); clear hz hb ha)
          | (go_at_call 29; refine (HPA.out _ HA1.out).mono ?_; rintro e w2 ⟨rfl, a2⟩; have HA2 := Lib.hid (HA1.out.trans a2); have HBZ2 := Lib.hid (HBZ.out.over a2); clear a2)
          | (refine kop_alloc rfl rfl HI.out ?_; intro u w3 hz hb ha; have HUU := Lib.hid (Nat.le_trans HA2.out.size hz); have HBU3 := Lib.hid hb; have HA3 := Lib.hid (HA2.out.trans ha); have HBZ3 := Lib.hid (HBZ2.out.over ha); have HNE := Lib.hid (show z ≠ u from fun e => by have := HBZ2.out.lt; omega); clear hz hb ha)
          | (refine kop_store rfl _ _ rfl u HBU3.out rfl rfl sizeT HCS.out HZS.out HC1.out ?_; intro w4 hb ha; have HBU4 := Lib.hid hb; have HA4 := Lib.hid (HA3.out.fresh HUU.out ha); have HBZ4 := Lib.hid (HBZ3.out.far1 ha HNE.out); clear hb ha HBU3)
          | (refine kop_load rfl _ rfl u HBU4.out rfl Try.underlying34 rfl sizeT HCS.out ?_)
          | (go_at_call 8; refine (HEN.out _).mono ?_; rintro e w5 ⟨A5, m5, k5, F5, rfl, a5, y5, _⟩; obtain ⟨rfl, s5⟩ := y5 HOK.out; rw [if_pos HOK.out]; have HA5 := Lib.hid (HA4.out.trans a5); have HBZ5 := Lib.hid (HBZ4.out.over a5); have HS5 := Lib.hid s5; have HR5 := Lib.hid (HR.out.far (fun k _ _ hk => HA5.out.block k hk (fun h => h)) HA5.out.size); clear a5 y5 s5 HBU4)
          | (go_at_call 30; refine (iequal_any _ _ _ _ _ _ _ HS5.out.rd HR5.out (secT_lt _) HB.out).mono ?_; rintro e w6 ⟨rfl, rfl⟩; rw [HQ.out])
          | (refine kop_zero HBU.out rfl rfl ?_)
          | (refine kop_store rfl _ _ rfl z HBZ5.out rfl rfl sizeT HZS.out HZS.out HZ1.out ?_; intro w7 hb ha; have HB7 := Lib.hid hb; have HA7 := Lib.hid ((HA5.out.nul).fresh HZZ.out ha); clear hb ha)
          | fail)
        exact bodyPost_ret (kres2 (v := .int .i64 4) rfl _ _ rfl rfl HB7.out Try.underlying34 rfl (by rw [sizeT, HZS.out])) rfl (HNO.out _ HNN.out HA7.out)
    · have HOK := Lib.hid ho
      have HNN := Lib.hid (show decT l = none by unfold decT; rw [← HX.out]; exact if_neg (fun h => HOK.out h.2.1))
      clear ho
      go_enter Try.func15, Try.ntmps15
      go_wp2_with (first
        | (refine kop_alloc rfl rfl HI.out ?_; intro z w1 hz hb ha; have HZZ := Lib.hid hz; have HBZ := Lib.hid hb; have HA1 := Lib.hid ((Adv.refl Nul w).trans ha); clear hz hb ha)
        | (go_at_call 29; refine (HPA.out _ HA1.out).mono ?_; rintro e w2 ⟨rfl, a2⟩; have HA2 := Lib.hid (HA1.out.trans a2); have HBZ2 := Lib.hid (HBZ.out.over a2); clear a2)
        | (refine kop_alloc rfl rfl HI.out ?_; intro u w3 hz hb ha; have HUU := Lib.hid (Nat.le_trans HA2.out.size hz); have HBU3 := Lib.hid hb; have HA3 := Lib.hid (HA2.out.trans ha); have HBZ3 := Lib.hid (HBZ2.out.over ha); have HNE := Lib.hid (show z ≠ u from fun e => by have := HBZ2.out.lt; omega); clear hz hb ha)
        | (refine kop_store rfl _ _ rfl u HBU3.out rfl rfl sizeT HCS.out HZS.out HC1.out ?_; intro w4 hb ha; have HBU4 := Lib.hid hb; have HA4 := Lib.hid (HA3.out.fresh HUU.out ha); have HBZ4 := Lib.hid (HBZ3.out.far1 ha HNE.out); clear hb ha HBU3)
        | (refine kop_load rfl _ rfl u HBU4.out rfl Try.underlying34 rfl sizeT HCS.out ?_)
        | (go_at_call 8; refine (HEN.out _).mono ?_; rintro e w5 ⟨A5, m5, k5, F5, rfl, a5, y5, _⟩; rw [if_neg HOK.out]; have HA5 := Lib.hid (HA4.out.trans a5); have HBZ5 := Lib.hid (HBZ4.out.over a5); clear a5 y5 HBU4)
        | (refine kop_zero HBU.out rfl rfl ?_)
        | (refine kop_store rfl _ _ rfl z HBZ5.out rfl rfl sizeT HZS.out HZS.out HZ1.out ?_; intro w7 hb ha; have HB7 := Lib.hid hb; have HA7 := Lib.hid ((HA5.out.nul).fresh HZZ.out ha); clear hb ha)
        | fail)
      exact bodyPost_ret (kres2 (v := .int .i64 4) rfl _ _ rfl rfl HB7.out Try.underlying34 rfl (by rw [sizeT, HZS.out])) rfl (HNO.out _ HNN.out HA7.out)
  · have hn' : ((n : Int) != 128) = true := by rw [bne_iff_ne]; omega
    have HNN := Lib.hid (decT_len (l := l) (by rw [← HN.out]; exact hn))
    clear hn
    go_enter Try.func15, Try.ntmps15
    go_wp2_with (first
      | (refine kop_alloc rfl rfl HI.out ?_; intro z w1 hz hb ha; have HZZ := Lib.hid hz; have HBZ := Lib.hid hb; have HA1 := Lib.hid ((Adv.refl Nul w).trans ha); clear hz hb ha)
      | (refine kop_zero HBU.out rfl rfl ?_)
      | (refine kop_store rfl _ _ rfl z HBZ.out rfl rfl sizeT HZS.out HZS.out HZ1.out ?_; intro w7 hb ha; have HB7 := Lib.hid hb; have HA7 := Lib.hid (HA1.out.fresh HZZ.out ha); clear hb ha)
      | fail)
    exact bodyPost_ret (kres2 (v := .int .i64 4) rfl _ _ rfl rfl HB7.out Try.underlying34 rfl (by rw [sizeT, HZS.out])) rfl (HNO.out _ HNN.out HA7.out)
end Go.Proofs.Ytbjenpkgcdppaaa
