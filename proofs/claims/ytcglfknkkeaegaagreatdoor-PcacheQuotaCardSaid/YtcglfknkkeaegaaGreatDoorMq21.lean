/- What stands where a slot's parts do: the program's parts, Decode. The program's Decode of a slot. The program's cache: take, load, Number, SetNumber. A slot at all, as each statement of layer 14 asks; slots and blocks that came in. The program's cache: load. The program's cache: Number, SetNumber. -/
import Derived.Test.YtcglfknkkeaegaaGreatDoorMq17
import Derived.Test.YtcglfknkkeaegaaGreatDoorMq01
import Derived.Test.YtcglfknkkeaegaaGreatDoorMq20
import Derived.Test.YtcglfknkkeaegaaGreatDoorMq11
namespace Go.Proofs.YtcglfknkkeaegaaGreatDoor
open Go.ChangeShapes Go.WideShapes Go.ChangeAt Go.RowKit

set_option maxRecDepth 3000 in
theorem kres1 {fn : Func} {p : Tmp} {ty : TypeId} (h : fn.results = #[.cell p ty]) (tmps : Array Value) (w : World) {z : Nat} {t : TypeId} {C : Array Value} {d : TypeDesc} (hp : tmps.getD p undef = .pointer (some ⟨z, 0, none⟩)) (hB : Blk w z t C)
    (hu : Tryz.prog.underlying ty = some d) (hd : d.isRow = true) (hi : (Tryz.prog.info? ty).map (·.size) = some C.size) : (results fn tmps).run Tryz.prog w = .ok (.agg C) w := by
  have hp' : tmps[p]?.getD undef = .pointer (some ⟨z, 0, none⟩) := by simpa using hp
  have hl := run_loadVar_mid (P := Tryz.prog) w z 0 ty C.toList d (Blk.range hB) hu hd (by rw [hi, Array.length_toList])
  rw [Array.toArray_toList] at hl
  simp only [results, h]
  simp [hp', asAddr, hl]
set_option maxRecDepth 3000 in
theorem trst_far {w w' : World} {F : Nat → Prop} {b q V a : Nat} (h : RSt w F b q V a) (hb : Bd F w) (hk : ∀ k, F k → w'.heap[k]? = w.heap[k]?) (hs : w.heap.size ≤ w'.heap.size) : RSt w' F b q V a ∧ Bd F w' := by
  obtain ⟨rv, hB, hS⟩ := h.ex
  exact ⟨⟨⟨rv, hB.keep (hk b h.inF), ⟨own_keep hS.own fun k e => hk k (hS.inF k e), hS.inF, fun k e => Nat.lt_of_lt_of_le (hb k e) hs⟩⟩, h.inF, h.le, h.sm⟩, fun k e => Nat.lt_of_lt_of_le (hb k e) hs⟩
set_option maxRecDepth 3000 in
theorem wrap_bitsT (q V a n : Nat) (hn : n ≤ 62) : wrap64 ((bitsAt q V a n : Nat) : Int) = ((bitsAt q V a n : Nat) : Int) := by
  have h := bitsAt_lt q V a n
  have h2 : 2 ^ n ≤ 2 ^ 62 := Nat.pow_le_pow_right (by decide) hn
  unfold wrap64; omega
/-- while parts are read: the reader, the slot so far in block u, the zero one in block z -/
structure RdSl (W : World) (z u b V at' : Nat) (F : Nat → Prop) (C : Array Value) (w : World) : Prop where
  rs : RSt w F b 128 V at'
  bd : Bd F w
  bu : Blk w u 44 C
  bz : Blk w z 44 (tc zeroT)
  ad : Adv Nul W F w
  fu : ¬ F u
  fz : ¬ F z
  uz : u ≠ z
  nu : W.heap.size ≤ u
  nz : W.heap.size ≤ z
section
variable {W w w' : World} {z u b V at' at2 : Nat} {F : Nat → Prop} {C : Array Value}
set_option maxRecDepth 3000 in
theorem RdSl.get (h : RdSl W z u b V at' F C w) (hr : RSt w' F b 128 V at2) (ha : Adv F w F w') (hb : Bd F w') : RdSl W z u b V at2 F C w' :=
  ⟨hr, hb, h.bu.keep (ha.block u h.bu.lt h.fu), h.bz.keep (ha.block z h.bz.lt h.fz), h.ad.trans ha, h.fu, h.fz, h.uz, h.nu, h.nz⟩
set_option maxRecDepth 3000 in
theorem RdSl.set (h : RdSl W z u b V at' F C w) (k : Nat) (v : Value) : RdSl W z u b V at' F (C.setIfInBounds k v) (w.setCell ⟨u, k, none⟩ v) := by
  have hF : ∀ k, F k → k ≠ u := fun k hk e => h.fu (e ▸ hk)
  obtain ⟨h1, h2⟩ := trst_far (w' := w.setCell ⟨u, k, none⟩ v) h.rs h.bd (fun i hi => heap_setCell_other w ⟨u, k, none⟩ i v (hF i hi)) (by simp)
  exact ⟨h1, h2, h.bu.set_ k v, h.bz.far (p := ⟨u, k, none⟩) (fun e => h.uz e.symm) v, h.ad.setCell (.inr h.nu) v, h.fu, h.fz, h.uz, h.nu, h.nz⟩
end
set_option maxRecDepth 3000 in
set_option maxHeartbeats 3200000 in
theorem sparts_any (v : Value) (l : List Nat) (w : World) (h : Rd w 1 v 128 (l.map u8)) (hl : l.length = 128) (hb : ∀ x ∈ l, x < 256) :
    Calls Tryz.prog 118 #[v] w fun e w' => e = .returned (.agg (tc (prT (byN l)))) ∧ Adv Nul w Nul w' := by
  obtain ⟨A, c, rfl, _, hc⟩ := h.form
  obtain ⟨z, hz⟩ : ∃ z, z = w.heap.size := ⟨_, rfl⟩
  obtain ⟨V0, hV⟩ : ∃ V, V = w.alloc (.cells (tc zeroT) 44) := ⟨_, rfl⟩
  have HZ := Lib.hid (show Blk V0 z 44 (tc zeroT) by rw [hV, hz]; exact Blk.new _ _ _)
  have HA := Lib.hid (show Adv Nul w Nul V0 by rw [hV]; exact (Adv.refl _ _).alloc _)
  obtain ⟨V, hVN⟩ : ∃ V, V = byN l := ⟨_, rfl⟩
  have hopen : Calls Tryz.prog 142 #[.slice A 128 c] V0 fun e w' => ∃ b F, e = .returned (.pointer (some ⟨b, 0, none⟩)) ∧ RSt w' F b 128 V 0 ∧ Adv Nul V0 F w' ∧ Bd F w' := open_any _ 128 V V0 (by rw [hVN, ← hl, be_byN l hb, hl, hV]; exact h.far (fun k _ _ hk => Below.heap_alloc _ _ _ hk) (by simp)) (by decide)
  rw [← hVN]
  have HO := Lib.hid hopen
  have HV := Lib.hid hV
  have HZZ := Lib.hid hz
  have HLZ := Lib.hid (show w.heap.size ≤ z by rw [hz]; exact Nat.le_refl _)
  clear hopen hVN hV hz h hl hb
  have hzc : tc zeroT = #[.bool false, .int .i64 0, .int .i64 0, .int .i64 0, .int .u64 0, .bool false, .string ⟨#[]⟩] := rfl
  rw [hzc] at HV
  clear hzc
  have e0 := wrap_bitsT 128 V 2 6 (by decide)
  have e1 := wrap_bitsT 128 V 8 31 (by decide)
  have e2 := wrap_bitsT 128 V 39 3 (by decide)
  go_enter Tryz.func118, Tryz.ntmps118
  go_upto_region 1 with (fail)
  rw [← HV.out, ← HZZ.out]
  go_upto_region 3 with (first
    | (go_at_call 142; refine HO.out.mono ?_; rintro e w1 ⟨b, F, rfl, r1, a1, b1⟩; have HR1 := Lib.hid r1; have HA1 := Lib.hid (HA.out.trans a1); have HB1 := Lib.hid b1; have HZ1 := Lib.hid (HZ.out.keep (a1.block z HZ.out.lt (fun h => h))); have HF1 := Lib.hid (show ¬ F z from fun h => by rcases a1.into z h with h | h; exact h.elim; exact absurd HZ.out.lt (by omega)); clear r1 a1 b1)
    | (go_at_call 143; refine (get_ok b 128 V 0 1 F _ HR1.out HB1.out (by decide) (by decide)).mono ?_; rintro e w2 ⟨rfl, r2, a2, b2⟩; have HR2 := Lib.hid r2; have HA2 := Lib.hid (HA1.out.trans a2); have HB2 := Lib.hid b2; have HZ2 := Lib.hid (HZ1.out.keep (a2.block z HZ1.out.lt HF1.out)); clear r2 a2 b2 HR1)
    | (go_at_call 143; refine (get_ok b 128 V 1 1 F _ HR2.out HB2.out (by decide) (by decide)).mono ?_; rintro e w3 ⟨rfl, r3, a3, b3⟩; have HR3 := Lib.hid r3; have HA3 := Lib.hid (HA2.out.trans a3); have HB3 := Lib.hid b3; have HZ3 := Lib.hid (HZ2.out.keep (a3.block z HZ2.out.lt HF1.out)); clear r3 a3 b3 HR2)
    | fail)
  obtain ⟨u, hue⟩ : ∃ u, u = w3.heap.size := ⟨_, rfl⟩
  obtain ⟨C0, hC0⟩ : ∃ C : Array Value, C = #[.bool (((bitsAt 128 V 0 1 : Nat) : Int) != 0), .int .i64 0, .int .i64 0, .int .i64 0, .int .u64 0, .bool (((bitsAt 128 V 1 1 : Nat) : Int) != 0), .string ⟨#[]⟩] := ⟨_, rfl⟩
  obtain ⟨W4, hW4⟩ : ∃ W4, W4 = w3.alloc (.cells C0 44) := ⟨_, rfl⟩
  have hs : RdSl w z u b V 2 F C0 W4 := by
    obtain ⟨k1, k2⟩ := trst_far (w' := W4) HR3.out HB3.out (fun k hk => by rw [hW4]; exact Below.heap_alloc _ _ _ (HB3.out k hk)) (by rw [hW4]; simp)
    have e : u ≠ z := fun e => by have := HZ3.out.lt; omega
    refine ⟨k1, k2, ?_, ?_, ?_, fun h => ?_, HF1.out, e, ?_, HLZ.out⟩
    · rw [hW4, hue]; exact Blk.new _ _ _
    · rw [hW4]; exact HZ3.out.alloc _
    · rw [hW4]; exact HA3.out.alloc _
    · have := HB3.out u h; omega
    · rw [hue]; exact HA3.out.size
  have HS := Lib.hid hs
  have HC0 := Lib.hid hC0
  rw [hC0] at hW4
  rw [← hue, ← hW4]
  clear hs hW4 hC0 hue HR3 HA3 HB3 HZ3 HA2 HZ1 HZ2 HB1 HB2
  go_upto_region 6 with (first
    | (go_at_call 143; refine (get_ok b 128 V 2 6 F _ HS.out.rs HS.out.bd (by decide) (by decide)).mono ?_; rintro e w5 ⟨rfl, r5, a5, b5⟩; have HS5 := Lib.hid (HS.out.get r5 a5 b5); clear r5 a5 b5 HS)
    | (go_at_call 143; refine (get_ok b 128 V 8 31 F _ HS5.out.rs HS5.out.bd (by decide) (by decide)).mono ?_; rintro e w6 ⟨rfl, r6, a6, b6⟩; have HS6 := Lib.hid (((HS5.out.get r6 a6 b6).set 1 (.int .i64 ((bitsAt 128 V 2 6 : Nat) : Int))).set 2 (.int .i64 ((bitsAt 128 V 8 31 : Nat) : Int))); have hB6 := (HS5.out.get r6 a6 b6).bu; rw [HC0.out] at hB6; have c1 := hB6.cell 1; have c2 := hB6.cell 2; have f1 := hB6.frozen 1; have f2 := hB6.frozen 2; clear r6 a6 b6 hB6 HS5)
    | (go_at_call 143; refine (get_ok b 128 V 39 3 F _ HS6.out.rs HS6.out.bd (by decide) (by decide)).mono ?_; rintro e w7 ⟨rfl, r7, a7, b7⟩; have HS7 := Lib.hid ((HS6.out.get r7 a7 b7).set 3 (.int .i64 ((bitsAt 128 V 39 3 : Nat) : Int))); have hB7 := (HS6.out.get r7 a7 b7).bu; rw [HC0.out] at hB7; have c3 := hB7.cell 3; have f3 := hB7.frozen 3; clear r7 a7 b7 hB7 HS6)
    | (go_at_call 143; refine (get_ok b 128 V 42 40 F _ HS7.out.rs HS7.out.bd (by decide) (by decide)).mono ?_; rintro e w8 ⟨rfl, r8, a8, b8⟩; have HS8 := Lib.hid ((HS7.out.get r8 a8 b8).set 4 (.int .u64 ((bitsAt 128 V 42 40 : Nat) : Int))); have hB8 := (HS7.out.get r8 a8 b8).bu; rw [HC0.out] at hB8; have c4 := hB8.cell 4; have f4 := hB8.frozen 4; clear r8 a8 b8 hB8 HS7)
    | fail)
  by_cases hn : 98 + 8 * bitsAt 128 V 82 16 ≤ 1024
  · have HTX := Lib.hid (show tc (prT V) = (((((C0.setIfInBounds 1 (.int .i64 ((bitsAt 128 V 2 6 : Nat) : Int))).setIfInBounds 2 (.int .i64 ((bitsAt 128 V 8 31 : Nat) : Int))).setIfInBounds 3 (.int .i64 ((bitsAt 128 V 39 3 : Nat) : Int))).setIfInBounds 4 (.int .u64 ((bitsAt 128 V 42 40 : Nat) : Int))).setIfInBounds 6 (.string ⟨(bytesAt 128 V (82 + 16) (bitsAt 128 V 82 16)).toArray⟩)) by unfold prT; rw [if_pos hn, HC0.out]; rfl)
    have HN := Lib.hid hn
    clear hn
    go_wp2_with (first
      | (go_at_call 151; refine (rtext_ok b 128 V 82 _ F _ HS8.out.rs HS8.out.bd rfl (by have := HN.out; omega)).mono ?_; rintro e w9 ⟨rfl, r9, a9, b9⟩; have HS9 := Lib.hid ((HS8.out.get r9 a9 b9).set 6 (.string ⟨(bytesAt 128 V (82 + 16) (bitsAt 128 V 82 16)).toArray⟩)); have hB9 := (HS8.out.get r9 a9 b9).bu; rw [HC0.out] at hB9; have c6 := hB9.cell 6; have f6 := hB9.frozen 6; rw [← HTX.out] at HS9; clear r9 a9 b9 hB9 HS8)
      | (refine kop_load rfl _ rfl u HS9.out.bu rfl Tryz.underlying44 rfl sizeT (tc_size _) ?_)
      | (refine kop_store rfl _ _ rfl z HS9.out.bz rfl rfl sizeT (tc_size _) (tc_size _) (tc_one _) ?_; intro w10 hb ha; have HB10 := Lib.hid hb; have HA10 := Lib.hid ((HS9.out.ad.nul).fresh HLZ.out ha); clear hb ha)
      | fail)
    exact bodyPost_ret (kres1 rfl _ _ rfl HB10.out Tryz.underlying44 rfl (by rw [sizeT]; rfl)) rfl ⟨rfl, HA10.out⟩
  · have HTX := Lib.hid (show tc (prT V) = (((((C0.setIfInBounds 1 (.int .i64 ((bitsAt 128 V 2 6 : Nat) : Int))).setIfInBounds 2 (.int .i64 ((bitsAt 128 V 8 31 : Nat) : Int))).setIfInBounds 3 (.int .i64 ((bitsAt 128 V 39 3 : Nat) : Int))).setIfInBounds 4 (.int .u64 ((bitsAt 128 V 42 40 : Nat) : Int))).setIfInBounds 6 (.string ⟨#[]⟩)) by unfold prT; rw [if_neg hn, HC0.out]; rfl)
    have HN := Lib.hid hn
    clear hn
    go_wp2_with (first
      | (go_at_call 151; refine (rtext_short b 128 V 82 F _ HS8.out.rs HS8.out.bd (.inr (by have := HN.out; omega))).mono ?_; rintro e w9 ⟨rfl, _, a9⟩; have HB9 := Lib.hid ((HS8.out.bu.keep (a9.block u HS8.out.bu.lt HS8.out.fu)).set_ 6 (.string ⟨#[]⟩)); have hB9 := HS8.out.bu.keep (a9.block u HS8.out.bu.lt HS8.out.fu); rw [HC0.out] at hB9; have c6 := hB9.cell 6; have f6 := hB9.frozen 6; rw [← HTX.out] at HB9; have HZ9 := Lib.hid ((HS8.out.bz.keep (a9.block z HS8.out.bz.lt HS8.out.fz)).far (p := ⟨u, 6, none⟩) (fun e => HS8.out.uz e.symm) (.string ⟨#[]⟩)); have HA9 := Lib.hid (((HS8.out.ad.trans a9).setCell (p := ⟨u, 6, none⟩) (.inr HS8.out.nu) (.string ⟨#[]⟩)).nul); clear a9 hB9 HS8)
      | (refine kop_load rfl _ rfl u HB9.out rfl Tryz.underlying44 rfl sizeT (tc_size _) ?_)
      | (refine kop_store rfl _ _ rfl z HZ9.out rfl rfl sizeT (tc_size _) (tc_size _) (tc_one _) ?_; intro w10 hb ha; have HB10 := Lib.hid hb; have HA10 := Lib.hid (HA9.out.fresh HLZ.out ha); clear hb ha)
      | fail)
    exact bodyPost_ret (kres1 rfl _ _ rfl HB10.out Tryz.underlying44 rfl (by rw [sizeT]; rfl)) rfl ⟨rfl, HA10.out⟩
end Go.Proofs.YtcglfknkkeaegaaGreatDoor
namespace Go.Proofs.YtcglfknkkeaegaaGreatDoor
open Go.ChangeShapes Go.WideShapes Go.ChangeAt Go.RowKit

def DecT (w : World) (l : List Nat) (e : Ending) (w' : World) : Prop := e = .returned (.tuple #[.agg (tc (dT l)), .int .i64 (eT l)]) ∧ Adv Nul w Nul w'
set_option maxRecDepth 3000 in
theorem DecT.no {w w' : World} {l : List Nat} (h : decSl l = none) (ha : Adv Nul w Nul w') : DecT w l (.returned (.tuple #[.agg (tc zeroT), .int .i64 4])) w' := by
  obtain ⟨h1, h2⟩ := dT_no h
  exact ⟨by rw [h1, h2], ha⟩
set_option maxRecDepth 3000 in
theorem DecT.yes {w w' : World} {l : List Nat} {x : Slt} (h : decSl l = some x) (ha : Adv Nul w Nul w') : DecT w l (.returned (.tuple #[.agg (tc x), .int .i64 0])) w' := by
  obtain ⟨h1, h2⟩ := dT_yes h
  exact ⟨by rw [h1, h2], ha⟩
set_option maxRecDepth 3000 in
set_option maxHeartbeats 3200000 in
theorem sdecode_any (v : Value) (l : List Nat) (w : World) (h : Rd w 1 v l.length (l.map u8)) (hb : ∀ x ∈ l, x < 256) : Calls Tryz.prog 79 #[v] w (DecT w l) := by
  obtain ⟨n, hn⟩ : ∃ n, n = l.length := ⟨_, rfl⟩
  rw [← hn] at h
  obtain ⟨A, c, rfl, hc1, hc2⟩ := h.form
  clear hc1 hc2
  have HR := Lib.hid h
  have HN := Lib.hid hn
  have HB := Lib.hid hb
  obtain ⟨Z, hZ⟩ : ∃ C, C = tc zeroT := ⟨_, rfl⟩
  have HZ := Lib.hid hZ
  have HZS := Lib.hid (show Z.size = 7 by rw [hZ]; rfl)
  have HZ1 := Lib.hid (show Z.all (·.oneCell') = true by rw [hZ]; exact tc_one _)
  have HI := Lib.hid infoT
  have HBU := Lib.hid builtT
  have HNO := Lib.hid (fun w' => @DecT.no w w' l)
  rw [← hZ] at HI HBU HNO
  clear hn h hb hZ
  by_cases hn : n = 128
  · subst hn
    have HPA := Lib.hid (fun V (ha : Adv Nul w Nul V) => sparts_any _ l V (HR.out.far (fun k _ _ hk => ha.block k hk (fun h => h)) ha.size) HN.out.symm HB.out)
    obtain ⟨x, hx⟩ : ∃ x, x = prT (byN l) := ⟨_, rfl⟩
    rw [← hx] at HPA
    have HX := Lib.hid hx
    have HEN := Lib.hid (sencode_any x (by rw [hx]; exact prT_wf _))
    have HRES := Lib.hid (fun (w' : World) => @DecT.yes w w' l x)
    obtain ⟨C, hC⟩ : ∃ C, C = tc x := ⟨_, rfl⟩
    have HCS := Lib.hid (show C.size = 7 by rw [hC]; rfl)
    have HC1 := Lib.hid (show C.all (·.oneCell') = true by rw [hC]; exact tc_one _)
    rw [← hC] at HPA HEN HRES
    clear hx hC
    by_cases ho : isT x
    · have HOK := Lib.hid ho
      clear ho
      by_cases hq : secT x = l
      · have HYES := Lib.hid (show decSl l = some x by unfold decSl; rw [← HX.out, if_pos ⟨HN.out.symm, HOK.out, hq⟩])
        have HQ := Lib.hid (decide_eq_true hq)
        clear hq
        go_enter Tryz.func79, Tryz.ntmps79
        go_wp2_with (first
          | (refine kop_alloc rfl rfl HI.out ?_; intro z w1 hz hb ha; have HZZ := Lib.hid hz; have HBZ := Lib.hid hb; have HA1 := Lib.hid ((Adv.refl Nul w).trans ha); clear hz hb ha)
          | (go_at_call 118; refine (HPA.out _ HA1.out).mono ?_; rintro e w2 ⟨rfl, a2⟩; have HA2 := Lib.hid (HA1.out.trans a2); have HBZ2 := Lib.hid (HBZ.out.over a2); clear a2)
          | (refine kop_alloc rfl rfl HI.out ?_; intro u w3 hz hb ha; have HUU := Lib.hid (Nat.le_trans HA2.out.size hz); have HBU3 := Lib.hid hb; have HA3 := Lib.hid (HA2.out.trans ha); have HBZ3 := Lib.hid (HBZ2.out.over ha); have HNE := Lib.hid (show z ≠ u from fun e => by have := HBZ2.out.lt; omega); clear hz hb ha)
          | (refine kop_store rfl _ _ rfl u HBU3.out rfl rfl sizeT HCS.out HZS.out HC1.out ?_; intro w4 hb ha; have HBU4 := Lib.hid hb; have HA4 := Lib.hid (HA3.out.fresh HUU.out ha); have HBZ4 := Lib.hid (HBZ3.out.far1 ha HNE.out); clear hb ha HBU3)
          | (refine kop_load rfl _ rfl u HBU4.out rfl Tryz.underlying44 rfl sizeT HCS.out ?_)
          | (go_at_call 65; refine (HEN.out _).mono ?_; rintro e w5 ⟨A5, m5, k5, F5, rfl, a5, y5, _⟩; obtain ⟨rfl, s5⟩ := y5 HOK.out; rw [if_pos HOK.out]; have HA5 := Lib.hid (HA4.out.trans a5); have HBZ5 := Lib.hid (HBZ4.out.over a5); have HBU5 := Lib.hid (HBU4.out.over a5); have HS5 := Lib.hid s5; have HR5 := Lib.hid (HR.out.far (fun k _ _ hk => HA5.out.block k hk (fun h => h)) HA5.out.size); clear a5 y5 s5 HBU4)
          | (go_at_call 117; refine (iequal_any _ _ _ _ _ _ _ HS5.out.rd HR5.out (secT_lt _) HB.out).mono ?_; rintro e w6 ⟨rfl, rfl⟩; rw [HQ.out])
          | (refine kop_load rfl _ rfl u HBU5.out rfl Tryz.underlying44 rfl sizeT HCS.out ?_)
          | (refine kop_store rfl _ _ rfl z HBZ5.out rfl rfl sizeT HCS.out HZS.out HC1.out ?_; intro w7 hb ha; have HB7 := Lib.hid hb; have HA7 := Lib.hid ((HA5.out.nul).fresh HZZ.out ha); clear hb ha)
          | fail)
        exact bodyPost_ret (kres2 (v := .int .i64 0) rfl _ _ rfl rfl HB7.out Tryz.underlying44 rfl (by rw [sizeT, HCS.out])) rfl (HRES.out _ HYES.out HA7.out)
      · have HNN := Lib.hid (show decSl l = none by unfold decSl; rw [← HX.out]; exact if_neg (fun h => hq h.2.2))
        have HQ := Lib.hid (decide_eq_false hq)
        clear hq
        go_enter Tryz.func79, Tryz.ntmps79
        go_wp2_with (first
          | (refine kop_alloc rfl rfl HI.out ?_; intro z w1 hz hb ha; have HZZ := Lib.hid hz; have HBZ := Lib.hid hb; have HA1 := Lib.hid ((Adv.refl Nul w).trans ha); clear hz hb ha)
          | (go_at_call 118; refine (HPA.out _ HA1.out).mono ?_; rintro e w2 ⟨rfl, a2⟩; have HA2 := Lib.hid (HA1.out.trans a2); have HBZ2 := Lib.hid (HBZ.out.over a2); clear a2)
          | (refine kop_alloc rfl rfl HI.out ?_; intro u w3 hz hb ha; have HUU := Lib.hid (Nat.le_trans HA2.out.size hz); have HBU3 := Lib.hid hb; have HA3 := Lib.hid (HA2.out.trans ha); have HBZ3 := Lib.hid (HBZ2.out.over ha); have HNE := Lib.hid (show z ≠ u from fun e => by have := HBZ2.out.lt; omega); clear hz hb ha)
          | (refine kop_store rfl _ _ rfl u HBU3.out rfl rfl sizeT HCS.out HZS.out HC1.out ?_; intro w4 hb ha; have HBU4 := Lib.hid hb; have HA4 := Lib.hid (HA3.out.fresh HUU.out ha); have HBZ4 := Lib.hid (HBZ3.out.far1 ha HNE.out); clear hb ha HBU3)
          | (refine kop_load rfl _ rfl u HBU4.out rfl Tryz.underlying44 rfl sizeT HCS.out ?_)
          | (go_at_call 65; refine (HEN.out _).mono ?_; rintro e w5 ⟨A5, m5, k5, F5, rfl, a5, y5, _⟩; obtain ⟨rfl, s5⟩ := y5 HOK.out; rw [if_pos HOK.out]; have HA5 := Lib.hid (HA4.out.trans a5); have HBZ5 := Lib.hid (HBZ4.out.over a5); have HS5 := Lib.hid s5; have HR5 := Lib.hid (HR.out.far (fun k _ _ hk => HA5.out.block k hk (fun h => h)) HA5.out.size); clear a5 y5 s5 HBU4)
          | (go_at_call 117; refine (iequal_any _ _ _ _ _ _ _ HS5.out.rd HR5.out (secT_lt _) HB.out).mono ?_; rintro e w6 ⟨rfl, rfl⟩; rw [HQ.out])
          | (refine kop_zero HBU.out rfl rfl ?_)
          | (refine kop_store rfl _ _ rfl z HBZ5.out rfl rfl sizeT HZS.out HZS.out HZ1.out ?_; intro w7 hb ha; have HB7 := Lib.hid hb; have HA7 := Lib.hid ((HA5.out.nul).fresh HZZ.out ha); clear hb ha)
          | fail)
        exact bodyPost_ret (kres2 (v := .int .i64 4) rfl _ _ rfl rfl HB7.out Tryz.underlying44 rfl (by rw [sizeT, HZS.out])) rfl (HNO.out _ HNN.out HA7.out)
    · have HOK := Lib.hid ho
      have HNN := Lib.hid (show decSl l = none by unfold decSl; rw [← HX.out]; exact if_neg (fun h => HOK.out h.2.1))
      clear ho
      go_enter Tryz.func79, Tryz.ntmps79
      go_wp2_with (first
        | (refine kop_alloc rfl rfl HI.out ?_; intro z w1 hz hb ha; have HZZ := Lib.hid hz; have HBZ := Lib.hid hb; have HA1 := Lib.hid ((Adv.refl Nul w).trans ha); clear hz hb ha)
        | (go_at_call 118; refine (HPA.out _ HA1.out).mono ?_; rintro e w2 ⟨rfl, a2⟩; have HA2 := Lib.hid (HA1.out.trans a2); have HBZ2 := Lib.hid (HBZ.out.over a2); clear a2)
        | (refine kop_alloc rfl rfl HI.out ?_; intro u w3 hz hb ha; have HUU := Lib.hid (Nat.le_trans HA2.out.size hz); have HBU3 := Lib.hid hb; have HA3 := Lib.hid (HA2.out.trans ha); have HBZ3 := Lib.hid (HBZ2.out.over ha); have HNE := Lib.hid (show z ≠ u from fun e => by have := HBZ2.out.lt; omega); clear hz hb ha)
        | (refine kop_store rfl _ _ rfl u HBU3.out rfl rfl sizeT HCS.out HZS.out HC1.out ?_; intro w4 hb ha; have HBU4 := Lib.hid hb; have HA4 := Lib.hid (HA3.out.fresh HUU.out ha); have HBZ4 := Lib.hid (HBZ3.out.far1 ha HNE.out); clear hb ha HBU3)
        | (refine kop_load rfl _ rfl u HBU4.out rfl Tryz.underlying44 rfl sizeT HCS.out ?_)
        | (go_at_call 65; refine (HEN.out _).mono ?_; rintro e w5 ⟨A5, m5, k5, F5, rfl, a5, y5, _⟩; rw [if_neg HOK.out]; have HA5 := Lib.hid (HA4.out.trans a5); have HBZ5 := Lib.hid (HBZ4.out.over a5); clear a5 y5 HBU4)
        | (refine kop_zero HBU.out rfl rfl ?_)
        | (refine kop_store rfl _ _ rfl z HBZ5.out rfl rfl sizeT HZS.out HZS.out HZ1.out ?_; intro w7 hb ha; have HB7 := Lib.hid hb; have HA7 := Lib.hid ((HA5.out.nul).fresh HZZ.out ha); clear hb ha)
        | fail)
      exact bodyPost_ret (kres2 (v := .int .i64 4) rfl _ _ rfl rfl HB7.out Tryz.underlying44 rfl (by rw [sizeT, HZS.out])) rfl (HNO.out _ HNN.out HA7.out)
  · have hn' : ((n : Int) != 128) = true := by rw [bne_iff_ne]; omega
    have HNN := Lib.hid (decSl_len (l := l) (by rw [← HN.out]; exact hn))
    clear hn
    go_enter Tryz.func79, Tryz.ntmps79
    go_wp2_with (first
      | (refine kop_alloc rfl rfl HI.out ?_; intro z w1 hz hb ha; have HZZ := Lib.hid hz; have HBZ := Lib.hid hb; have HA1 := Lib.hid ((Adv.refl Nul w).trans ha); clear hz hb ha)
      | (refine kop_zero HBU.out rfl rfl ?_)
      | (refine kop_store rfl _ _ rfl z HBZ.out rfl rfl sizeT HZS.out HZS.out HZ1.out ?_; intro w7 hb ha; have HB7 := Lib.hid hb; have HA7 := Lib.hid (HA1.out.fresh HZZ.out ha); clear hb ha)
      | fail)
    exact bodyPost_ret (kres2 (v := .int .i64 4) rfl _ _ rfl rfl HB7.out Tryz.underlying44 rfl (by rw [sizeT, HZS.out])) rfl (HNO.out _ HNN.out HA7.out)
end Go.Proofs.YtcglfknkkeaegaaGreatDoor
namespace Go.Proofs.YtcglfknkkeaegaaGreatDoor
open Go.ChangeShapes Go.WideShapes Go.ChangeAt Go.RowKit Go.Maps
set_option maxRecDepth 3000 in
set_option maxHeartbeats 3200000 in
/-- a slot taken up where none is -/
theorem take_p {w : World} {E : PE} (h : Pk w E) {i : Nat} {x : Slt} (hi : i < E.L.length) (hz : E.L[i] = zeroT) (hx : isT x) (hno : x = zeroT ∨ atL E.L (bkT x) = none) :
    Calls Tryz.prog 80 #[.pointer (some ⟨E.c, 0, none⟩), .agg (plcA i x)] w fun e w' => e = .returned (.int .i64 0) ∧ Pk w' ((E.setL (E.L.set i x)).setR (if x = zeroT then E.R else useR E.R i x.d)) ∧ Adv E.V w E.V w' := by
  have hset0 : E.L.set i zeroT = E.L := by rw [← hz]; exact List.set_getElem_self hi
  have HP := Lib.hid h
  have HFR := Lib.hid (free_any x (isT_wf hx))
  have HWF := Lib.hid (isT_wf hx).b
  by_cases h0 : x = zeroT
  · have HFIN := Lib.hid (show ∀ W, Adv Nul w Nul W → Pk W ((E.setL (E.L.set i x)).setR (if x = zeroT then E.R else useR E.R i x.d)) ∧ Adv E.V w E.V W from fun W a => by
      rw [if_pos h0, h0, hset0]
      exact ⟨h.step a, adv_wk a⟩)
    generalize (E.setL (E.L.set i x)).setR (if x = zeroT then E.R else useR E.R i x.d) = E2 at HFIN ⊢
    rw [decide_eq_true h0] at HFR
    clear h hi hz hx hno hset0 h0
    generalize E.c = c
    go_enter Tryz.func80, Tryz.ntmps80
    go_wp2_with (first
      | (refine kop_box rfl _ rfl rfl ?_; intro z w1 hz hb ha; have HZB := Lib.hid hb; have HA1 := Lib.hid ha; clear hz hb ha)
      | (refine gop_load (t := 44) rfl _ rfl z HZB.out.pl1 rfl Tryz.underlying44 rfl sizeT (tc_size x) ?_)
      | (go_at_call 33; refine (HFR.out _).mono ?_; rintro e w2 ⟨rfl, a2⟩; have HA2 := Lib.hid (HA1.out.trans a2); clear a2)
      | fail)
    go_ret
    exact ⟨rfl, HFIN.out _ HA2.out⟩
  · have hno' := hno.resolve_left h0
    have hl : LayOk E.L i x := ⟨hi, hx, .inr (by rw [hset0]; exact hno')⟩
    have HLY := Lib.hid (fun W (r : Pk W E) => lay_p r hl)
    have HUS := Lib.hid (fun W (r : Pk W (E.setL (E.L.set i x))) => show Calls Tryz.prog 68 #[.pointer (some ⟨E.c, 0, none⟩), .int .i64 (i : Int)] W fun e w' => e = .returned (.tuple #[]) ∧ Pk w' ((E.setL (E.L.set i x)).setR (if x = zeroT then E.R else useR E.R i x.d)) ∧ Adv E.V W E.V w' by
      have hlt : i < (E.L.set i x).length := by rw [List.length_set]; exact hi
      have e : (E.setL (E.L.set i x)).L[i]'hlt = x := by show (E.L.set i x)[i]'hlt = x; rw [List.getElem_set, if_pos rfl]
      refine (use_p (i := i) r hlt).mono ?_
      rintro e1 w1 ⟨a, b, c⟩
      rw [e] at b
      exact ⟨a, by rw [if_neg h0]; exact b, c⟩)
    generalize (E.setL (E.L.set i x)).setR (if x = zeroT then E.R else useR E.R i x.d) = E2 at HUS ⊢
    have HAT := Lib.hid hno'
    rw [decide_eq_false h0] at HFR
    obtain ⟨c, hc⟩ : ∃ c, c = E.c := ⟨_, rfl⟩
    obtain ⟨m, hm⟩ : ∃ c, c = E.m := ⟨_, rfl⟩
    have HS := Lib.hid (show ∀ W, Pk W E → W.cell? ⟨c, 4, none⟩ = some (.map (some m)) ∧ Mb W m E.L from fun W k => by rw [hc, hm]; exact ⟨k.c4, k.mp⟩)
    have HV := Lib.hid (show ∀ z, w.heap.size ≤ z → ¬ E.V z from fun z hz k => by have := h.bd z k; omega)
    rw [← hc] at HLY HUS ⊢
    have hi64 : (i : Int) ≤ 64 := by have := h.ln; omega
    clear h hi hz hx hno hno' hset0 h0 hl hc hm
    go_enter Tryz.func80, Tryz.ntmps80
    go_upto_region 3 with (first
      | (refine kop_box rfl _ rfl rfl ?_; intro z w1 hz hb ha; have HZZ := Lib.hid hz; have HZB := Lib.hid hb; have HA1 := Lib.hid ha; clear hz hb ha)
      | (refine gop_load (t := 44) rfl _ rfl z HZB.out.pl1 rfl Tryz.underlying44 rfl sizeT (tc_size x) ?_)
      | (go_at_call 33; refine (HFR.out _).mono ?_; rintro e w2 ⟨rfl, a2⟩; have HA2 := Lib.hid (HA1.out.trans a2).drew; have HZ2 := Lib.hid (HZB.out.over a2).drew; clear a2)
      | fail)
    have HP2 := Lib.hid (HP.out.step HA2.out)
    have K0 := Lib.hid (show ((w2.drew.cell? ⟨c, 4, none⟩ = some (.map (some m)) ∧ Mb w2.drew m E.L)) ∧ Blk w2.drew z 125 (plcA i x) from ⟨HS.out _ HP2.out, HZ2.out⟩)
    refine rstart (S := (fun w' => (w'.cell? ⟨c, 4, none⟩ = some (.map (some m)) ∧ Mb w' m E.L) ∧ Blk w' z 125 (plcA i x))) (by first | with_reducible exact K0.out) (fun hH => ?_)
    refine tk (i := 0) (oi := ⟨some 11, .move (.tmp 0), 29, "load.go:37", #[], none⟩) hH.out (by rintro w ⟨⟨s4, hm7⟩, hz7⟩; go_simp <;> with_reducible rfl) ?_
    simp only [Act.put, sA, sB, sC]
    refine tk (i := 1) (oi := ⟨some 12, .nilCheck (.tmp 11), 0, "load.go:37", #[⟨0, .data⟩], none⟩) hH.out (by rintro w ⟨⟨s4, hm7⟩, hz7⟩; go_simp <;> with_reducible rfl) ?_
    simp only [Act.put, sA, sB, sC]
    refine tk (i := 2) (oi := ⟨some 13, .fieldAddr 76 (.tmp 12) 4, 0, "load.go:37", #[⟨1, .data⟩], none⟩) hH.out (by rintro w ⟨⟨s4, hm7⟩, hz7⟩; go_simp <;> with_reducible rfl) ?_
    simp only [Act.put, sA, sB, sC]
    refine tk (i := 3) (oi := ⟨some 14, .load 74 (.tmp 13), 74, "load.go:37", #[⟨2, .data⟩], none⟩) hH.out (by rintro w ⟨⟨s4, hm7⟩, hz7⟩; go_simp <;> with_reducible rfl) ?_
    simp only [Act.put, sA, sB, sC]
    refine tk (i := 4) (oi := ⟨some 15, .fieldAddr 125 (.tmp 3) 1, 0, "load.go:37", #[], none⟩) hH.out (by rintro w ⟨⟨s4, hm7⟩, hz7⟩; go_simp <;> with_reducible rfl) ?_
    simp only [Act.put, sA, sB, sC]
    refine tk (i := 5) (oi := ⟨some 16, .fieldAddr 44 (.tmp 15) 1, 0, "load.go:37", #[⟨4, .data⟩], none⟩) hH.out (by rintro w ⟨⟨s4, hm7⟩, hz7⟩; go_simp <;> with_reducible rfl) ?_
    simp only [Act.put, sA, sB, sC]
    refine wpAnyH_take (i := 6) (oi := ⟨some 17, .load 37 (.tmp 16), 37, "load.go:37", #[⟨5, .data⟩], none⟩) (v := .agg (bkc (bkT x))) rfl (by kernel_rfl) (by kernel_rfl) (by kernel_rfl) (fun _ _ _ h => h) (gyl_load rfl (.tmp 16) rfl z rfl (fun _ h => h.2.pl2) Tryz.underlying37 rfl sizeBk rfl) hH.out ?_
    simp only [Act.put, sA, sB, sC]
    refine wpAnyH_take (i := 7) (oi := ⟨some 18, .lookup 74 (.tmp 14) (.tmp 17) true, 97, "load.go:37", #[⟨3, .data⟩, ⟨6, .data⟩], none⟩) (v := .tuple #[.int .i64 (((atL E.L (bkT x)).getD 0 : Nat) : Int), .bool (atL E.L (bkT x)).isSome]) rfl (by kernel_rfl) (by kernel_rfl) (by kernel_rfl) (fun _ _ _ h => h) (pyl_look rfl (.tmp 14) (.tmp 17) rfl m (bkT x) E.L (fun _ h => h.1.2) rfl rfl HWF.out) hH.out ?_
    simp only [Act.put, sA, sB, sC]
    refine tk (i := 8) (oi := ⟨some 10, .move (.tmp 18), 97, "load.go:37", #[⟨7, .data⟩], none⟩) hH.out (by rintro w ⟨⟨s4, hm7⟩, hz7⟩; go_simp <;> with_reducible rfl) ?_
    simp only [Act.put, sA, sB, sC]
    refine tk (i := 9) (oi := ⟨some 19, .extract (.tmp 10) 0, 3, "load.go:37", #[⟨8, .data⟩], none⟩) hH.out (by rintro w ⟨⟨s4, hm7⟩, hz7⟩; go_simp <;> with_reducible rfl) ?_
    simp only [Act.put, sA, sB, sC]
    refine tk (i := 10) (oi := ⟨some 20, .extract (.tmp 10) 1, 4, "load.go:37", #[⟨8, .data⟩, { on := 11, ground := Go.Ground.gcOnly Go.Departure.lateStores }], none⟩) hH.out (by rintro w ⟨⟨s4, hm7⟩, hz7⟩; go_simp <;> with_reducible rfl) ?_
    simp only [Act.put, sA, sB, sC]
    refine tk (i := 11) (oi := ⟨some 5, .assign (.tmp 19), 3, "load.go:37", #[⟨9, .data⟩, ⟨0, .phase⟩, ⟨1, .phase⟩, ⟨2, .phase⟩, ⟨3, .phase⟩, ⟨4, .phase⟩, ⟨5, .phase⟩, ⟨6, .phase⟩, ⟨7, .phase⟩, ⟨8, .phase⟩, ⟨9, .phase⟩, { on := 10, ground := Go.Ground.textOnly Go.Departure.lateStores }], none⟩) hH.out (by rintro w ⟨⟨s4, hm7⟩, hz7⟩; go_simp <;> with_reducible rfl) ?_
    simp only [Act.put, sA, sB, sC]
    refine tk (i := 12) (oi := ⟨some 6, .assign (.tmp 20), 4, "load.go:37", #[⟨10, .data⟩, ⟨11, .chain⟩, ⟨0, .phase⟩, ⟨1, .phase⟩, ⟨2, .phase⟩, ⟨3, .phase⟩, ⟨4, .phase⟩, ⟨5, .phase⟩, ⟨6, .phase⟩, ⟨7, .phase⟩, ⟨8, .phase⟩, ⟨9, .phase⟩, ⟨10, .phase⟩, ⟨11, .phase⟩], none⟩) hH.out (by rintro w ⟨⟨s4, hm7⟩, hz7⟩; go_simp <;> with_reducible rfl) ?_
    simp only [Act.put, sA, sB, sC]
    refine wpAnyH_done (by kernel_rfl) ?_ _
    rw [HAT.out]
    go_wp2_with (first
      | (refine kop_load rfl _ rfl z HZ2.out rfl Tryz.underlying125 rfl sizePl (plcA_size i x) ?_)
      | (go_at_call 96; refine (HLY.out _ HP2.out).mono ?_; rintro e w3 ⟨rfl, h3, a3⟩; have HP3 := Lib.hid h3; have HA3 := Lib.hid ((adv_wk HA2.out).trans a3); have c30 := (HZ2.out.keep (a3.block z HZ2.out.lt (HV.out z HZZ.out))).pl0; clear h3 a3)
      | (go_at_call 68; refine (HUS.out _ HP3.out).mono ?_; rintro e w4 ⟨rfl, h4, a4⟩; have HP4 := Lib.hid h4; have HA4 := Lib.hid (HA3.out.trans a4); clear h4 a4)
      | fail)
    go_ret
    exact ⟨rfl, HP4.out, HA4.out⟩
/-! What a cache takes up when it is opened. -/
def ldL (L : List Slt) (k : Nat) : List Slt := L.take k ++ List.replicate (L.length - k) zeroT
def ldR (L : List Slt) : Nat → RgS
  | 0 => cNew L.length
  | k + 1 => if L.getD k zeroT = zeroT then ldR L k else useR (ldR L k) k (L.getD k zeroT).d
set_option maxRecDepth 3000 in
theorem ldL_length (L : List Slt) (k : Nat) : (ldL L k).length = L.length := by
  unfold ldL
  rw [List.length_append, List.length_take, List.length_replicate]
  omega
set_option maxRecDepth 3000 in
theorem ldL_at (L : List Slt) (k j : Nat) (hj : j < L.length) : (ldL L k)[j]'(by rw [ldL_length]; exact hj) = if j < k then L[j] else zeroT := by
  unfold ldL
  rw [List.getElem_append]
  split
  · rename_i h
    rw [List.length_take] at h
    rw [List.getElem_take, if_pos (by omega)]
  · rename_i h
    rw [List.length_take] at h
    rw [List.getElem_replicate, if_neg (by omega)]
set_option maxRecDepth 3000 in
theorem ldL_succ {L : List Slt} {k : Nat} (hk : k < L.length) : (ldL L k).set k L[k] = ldL L (k + 1) := by
  apply List.ext_getElem
  · rw [List.length_set, ldL_length, ldL_length]
  · intro j h1 h2
    have hj : j < L.length := by rw [ldL_length] at h2; exact h2
    rw [List.getElem_set, ldL_at L (k + 1) j hj]
    by_cases e : k = j
    · subst e; rw [if_pos rfl, if_pos (by omega)]
    · rw [if_neg e, ldL_at L k j hj]
      by_cases c : j < k
      · rw [if_pos c, if_pos (by omega)]
      · rw [if_neg c, if_neg (by omega)]
set_option maxRecDepth 3000 in
theorem ldL_all (L : List Slt) : ldL L L.length = L := by unfold ldL; rw [Nat.sub_self, List.take_length]; simp
set_option maxRecDepth 3000 in
theorem ldL_no {L : List Slt} (h : WL L) {k : Nat} (hk : k < L.length) : L[k] = zeroT ∨ atL (ldL L k) (bkT L[k]) = none := by
  by_cases h0 : L[k] = zeroT
  · exact .inl h0
  · refine .inr (atL_none.2 fun j hj h1 h2 => ?_)
    have hj' : j < L.length := by rw [ldL_length] at hj; exact hj
    rw [ldL_at L k j hj'] at h1 h2
    by_cases c : j < k
    · rw [if_pos c] at h1 h2
      have := h.un j k hj' hk h1 (isT_ne (h.is _ (List.getElem_mem hk)) h0).1 h2
      omega
    · rw [if_neg c] at h1; cases h1
set_option maxRecDepth 3000 in
theorem getT_at {L : List Slt} {k : Nat} (hk : k < L.length) : L.getD k zeroT = L[k] := by rw [List.getD_eq_getElem?_getD, List.getElem?_eq_getElem hk]; rfl
set_option maxRecDepth 3000 in
theorem ld_prg {L : List Slt} (h : WL L) (h1 : 1 ≤ L.length) (h2 : L.length ≤ 64) : ∀ k, k ≤ L.length → PRg (ldL L k) (ldR L k)
  | 0, _ => PRg.new h1 h2
  | k + 1, hk => by
    have ih := ld_prg h h1 h2 k (by omega)
    have hkl : k < L.length := by omega
    rw [← ldL_succ hkl]
    unfold ldR
    rw [getT_at hkl]
    have hk0 : (ldL L k)[k]'(by rw [ldL_length]; exact hkl) = zeroT := by rw [ldL_at L k k hkl, if_neg (by omega)]
    by_cases h0 : L[k] = zeroT
    · rw [if_pos h0, h0]
      have : (ldL L k).set k zeroT = ldL L k := by
        conv => lhs; rw [← hk0]
        exact List.set_getElem_self _
      rw [this]
      exact ih
    · rw [if_neg h0]
      refine ih.use ⟨by rw [ldL_length]; exact hkl, h.is _ (List.getElem_mem hkl), .inr ?_⟩ (isT_ne (h.is _ (List.getElem_mem hkl)) h0).1
      have : (ldL L k).set k zeroT = ldL L k := by
        conv => lhs; rw [← hk0]
        exact List.set_getElem_self _
      rw [this]
      exact (ldL_no h hkl).resolve_left h0
end Go.Proofs.YtcglfknkkeaegaaGreatDoor
namespace Go.Proofs.YtcglfknkkeaegaaGreatDoor
open Go.ChangeShapes Go.WideShapes Go.ChangeAt Go.RowKit

set_option maxRecDepth 3000 in
theorem dT_secT {x : Slt} (h : isT x) : dT (secT x) = x ∧ eT (secT x) = 0 := dT_yes (decSl_back h)
set_option maxRecDepth 3000 in
theorem sdecode_back {x : Slt} (h : isT x) (v : Value) (w : World) (hr : Rd w 1 v 128 ((secT x).map u8)) : Calls Tryz.prog 79 #[v] w fun e w' => e = .returned (.tuple #[.agg (tc x), .int .i64 0]) ∧ Adv Nul w Nul w' := by
  refine (sdecode_any v (secT x) w (by rw [secT_length]; exact hr) (secT_lt x)).mono ?_
  rintro e w' ⟨rfl, ha⟩
  obtain ⟨h1, h2⟩ := dT_secT h
  rw [h1, h2]
  exact ⟨rfl, ha⟩
end Go.Proofs.YtcglfknkkeaegaaGreatDoor
namespace Go.Proofs.YtcglfknkkeaegaaGreatDoor
open Go.ChangeShapes Go.WideShapes Go.ChangeAt Go.RowKit Go.Maps
def LdW (w : World) (E : PE) (L : List Slt) (n : Nat) (num : Nat) (t37 : Value) (wr : World) : Prop := ∃ k, k ≤ n ∧ t37 = .int .i64 (k : Int) ∧ Pk wr (((E.setN num).setL (ldL L k)).setR (ldR L k)) ∧ Adv E.V w E.V wr
set_option maxRecDepth 3000 in
theorem PE.same1 (E : PE) (L : List Slt) (num : Nat) (hL : E.L = List.replicate L.length zeroT) (hR : E.R = cNew L.length) : E.setN num = ((E.setN num).setL (ldL L 0)).setR (ldR L 0) := by
  obtain ⟨F, d, l, b, n, N, s, g, c, r, q, m, L0, R0, num0⟩ := E
  simp only at hL hR
  subst hL hR
  rfl
set_option maxRecDepth 3000 in
set_option maxHeartbeats 6400000 in
theorem load_p {w : World} {E : PE} {L : List Slt} {num : Nat} (h : Pk w E) (hn : 2 ≤ E.n ∧ E.n + 3 ≤ E.N ∧ E.N ≤ 4096) (hA : AOk (E.N - 2 - E.n) E.g.A) (hM : 1 + L.length ≤ E.N - 2 - E.n) (hw : WL L) (hL : E.L = List.replicate L.length zeroT) (hR : E.R = cNew L.length) (hx : num ≤ 1099511627775)
    (h0 : homeG E.s E.n E.g 0 = numS num) (h1 : ∀ i (hi : i < L.length), homeG E.s E.n E.g (1 + i) = secT L[i]) :
    Calls Tryz.prog 44 #[.pointer (some ⟨E.c, 0, none⟩)] w fun e w' => e = .returned (.int .i64 0) ∧ Pk w' (((E.setN num).setL L).setR (ldR L L.length)) ∧ Adv E.V w E.V w' := by
  have HP := Lib.hid h
  obtain ⟨n, hnn⟩ : ∃ n, n = L.length := ⟨_, rfl⟩
  have HN := Lib.hid hnn
  have HRD := Lib.hid (fun W E2 (r : Pk W E2) (e : E2.s = E.s ∧ E2.g = E.g ∧ E2.n = E.n ∧ E2.N = E.N ∧ E2.l = E.l) i (hi : i < E.N - 2 - E.n) => show Calls Tryz.prog 77 #[.pointer (some ⟨E.l, 0, none⟩), .int .i64 (i : Int)] W (RdR W (homeG E.s E.n E.g i)) by
    have := gread_lg E2.l E2.b E2.d E2.n E2.N i E2.g E2.F E2.s W r.rs (by rw [e.2.2.1, e.2.2.2.1]; exact hn) (by rw [e.2.2.1, e.2.2.2.1, e.2.1]; exact hA) (by rw [e.2.2.1, e.2.2.2.1]; exact hi)
    rw [e.1, e.2.1, e.2.2.1, e.2.2.2.2] at this
    exact this)
  have HRD0 := Lib.hid (show Calls Tryz.prog 77 #[.pointer (some ⟨E.l, 0, none⟩), .int .i64 0] w (RdR w (numS num)) by
    have := HRD.out w E h ⟨rfl, rfl, rfl, rfl, rfl⟩ 0 (by omega)
    rw [h0] at this
    exact this)
  have HRDK := Lib.hid (fun W k (r : Pk W (((E.setN num).setL (ldL L k)).setR (ldR L k))) (hk : k < L.length) => show Calls Tryz.prog 77 #[.pointer (some ⟨E.l, 0, none⟩), .int .i64 (1 + (k : Int))] W (RdR W (secT L[k])) by
    have := HRD.out W _ r ⟨rfl, rfl, rfl, rfl, rfl⟩ (1 + k) (by omega)
    rw [h1 k hk, show ((1 + k : Nat) : Int) = 1 + (k : Int) by omega] at this
    exact this)
  have HDN := Lib.hid (fun v W hr => decnum_any num hx v W hr)
  have HW := Lib.hid hw
  have HDS := Lib.hid (fun k (hk : k < L.length) v W hr => sdecode_back (hw.is _ (List.getElem_mem hk)) v W hr)
  have HST := Lib.hid (show ∀ W, Pk W (E.setN num) → Pk W (((E.setN num).setL (ldL L 0)).setR (ldR L 0)) from fun W r => by rw [← E.same1 L num hL hR]; exact r)
  have HLEN := Lib.hid (show E.L.length = n by rw [hL, List.length_replicate, hnn])
  have hn64 : (n : Int) ≤ 64 := by have := h.ln; have := HLEN.out; omega
  have hn1 : (1 : Int) ≤ (n : Int) := by have := h.ln; have := HLEN.out; omega
  have HALL := Lib.hid (show ldL L n = L by rw [hnn]; exact ldL_all L)
  obtain ⟨c, hc⟩ : ∃ c, c = E.c := ⟨_, rfl⟩
  obtain ⟨l, hl⟩ : ∃ c, c = E.l := ⟨_, rfl⟩
  obtain ⟨q, hq⟩ : ∃ c, c = E.q := ⟨_, rfl⟩
  have HCC := Lib.hid (show ∀ W L2 R2 nm, L2.length = n → Pk W (((E.setN nm).setL L2).setR R2) → W.cell? ⟨c, 0, none⟩ = some (.pointer (some ⟨l, 0, none⟩)) ∧ W.cell? ⟨c, 3, none⟩ = some (.slice (some ⟨q, 0, none⟩) n n) from fun W L2 R2 nm hlen k => by
    rw [hc, hl, hq, ← hlen]
    exact ⟨k.c0, k.c3⟩)
  have HC0 := Lib.hid (show ∀ W, Pk W E → W.cell? ⟨c, 0, none⟩ = some (.pointer (some ⟨l, 0, none⟩)) ∧ (∃ u, W.cell? ⟨c, 2, none⟩ = some (.int .u64 u)) ∧ W.frozen? ⟨c, 2, none⟩ = false ∧ W.cell? ⟨c, 3, none⟩ = some (.slice (some ⟨q, 0, none⟩) n n) from fun W k => by
    rw [hc, hl, hq, ← HLEN.out]
    exact ⟨k.c0, ⟨_, k.c2⟩, k.blk.frozen 2, k.c3⟩)
  have HNB := Lib.hid (show ∀ W, Pk W E → Pk (W.setCell ⟨c, 2, none⟩ (.int .u64 (num : Int))) (E.setN num) ∧ Adv E.V W E.V (W.setCell ⟨c, 2, none⟩ (.int .u64 (num : Int))) from fun W k => by rw [hc]; exact k.numb num)
  have HTK := Lib.hid (fun W k (r : Pk W (((E.setN num).setL (ldL L k)).setR (ldR L k))) (hk : k < L.length) => show Calls Tryz.prog 80 #[.pointer (some ⟨c, 0, none⟩), .agg (plcA k L[k])] W fun e w' => e = .returned (.int .i64 0) ∧ Pk w' (((E.setN num).setL (ldL L (k + 1))).setR (ldR L (k + 1))) ∧ Adv E.V W E.V w' by
    have hk2 : k < (ldL L k).length := by rw [ldL_length]; exact hk
    have hk0 : (ldL L k)[k]'hk2 = zeroT := by rw [ldL_at L k k hk, if_neg (by omega)]
    have e1 : ldR L (k + 1) = if L[k] = zeroT then ldR L k else useR (ldR L k) k L[k].d := by show (if L.getD k zeroT = zeroT then _ else _) = _; rw [getT_at hk]
    rw [hc, e1, ← ldL_succ hk]
    exact take_p r hk2 hk0 (hw.is _ (List.getElem_mem hk)) (ldL_no hw hk))
  rw [← hc]
  rw [← hl] at HRD0 HRDK
  rw [← hnn]
  obtain ⟨cc0, -⟩ := HC0.out w h
  clear h hn hA hM hw hL hR hx h0 h1 hnn HRD hc hl hq
  go_enter Tryz.func44, Tryz.ntmps44
  go_wp2_with (first
    | (go_at_call 77; refine HRD0.out.mono ?_; rintro e w1 ⟨z1, rfl, -, -, hr1, -, a1⟩; have HR1 := Lib.hid hr1; have HA1 := Lib.hid a1; have HP1 := Lib.hid (HP.out.step a1); clear hr1 a1)
    | (go_at_call 78; refine (HDN.out _ _ HR1.out).mono ?_; rintro e w2 ⟨rfl, a2⟩; have HA2 := Lib.hid (HA1.out.trans a2); have HP2 := Lib.hid (HP1.out.step a2); obtain ⟨d0, ⟨u2, d2⟩, g2, d3⟩ := HC0.out _ HP2.out; have HNB2 := Lib.hid (HNB.out _ HP2.out); clear a2 cc0)
    | fail)
  go_loopw [37] (LdW w E L n num) (fun t _ => n - (intOf t).toNat)
  case atStart => exact ⟨0, Nat.zero_le _, rfl, HST.out _ HNB2.out.1, (adv_wk HA2.out).trans HNB2.out.2⟩
  case round =>
    obtain ⟨k, hk, rfl, hp, ha⟩ := hrel
    have HP3 := Lib.hid hp
    have HA3 := Lib.hid ha
    by_cases hlt : k < n
    · have hkl : k < L.length := by rw [← HN.out]; exact hlt
      obtain ⟨e0, -⟩ := HCC.out _ _ _ _ (by rw [ldL_length]; exact HN.out.symm) hp
      have HRK := Lib.hid (fun W r => HRDK.out W k r hkl)
      have HTKK := Lib.hid (fun W r => HTK.out W k r hkl)
      have HDK := Lib.hid (fun v W hr => HDS.out k hkl v W hr)
      obtain ⟨x, hx⟩ : ∃ x, x = L[k] := ⟨_, rfl⟩
      rw [← hx] at HRK HTKK HDK
      have HZT := Lib.hid infoT
      have HLT := Lib.hid hlt
      have hlt' : (k : Int) < (n : Int) := by omega
      clear hk hp ha hlt hkl hx d0 d2 g2 d3
      go_wp2_with (first
        | (go_at_call 77; refine (HRK.out _ HP3.out).mono ?_; rintro e w4 ⟨z4, rfl, -, -, hr4, -, a4⟩; have HR4 := Lib.hid hr4; have HA4 := Lib.hid a4; clear hr4 a4)
        | (go_at_call 79; refine (HDK.out _ _ HR4.out).mono ?_; rintro e w5 ⟨rfl, a5⟩; have HA5 := Lib.hid (HA4.out.trans a5); clear a5)
        | (refine kop_alloc rfl rfl HZT.out ?_; intro y w6 hz hb ha; have HY := Lib.hid (Nat.le_trans HA5.out.size hz); have HYB := Lib.hid hb; have HA6 := Lib.hid (HA5.out.trans ha); clear hz hb ha)
        | (refine kop_store rfl _ _ rfl y HYB.out rfl rfl sizeT (tc_size _) (tc_size _) (tc_one _) ?_; intro w7 hb ha; have HY7 := Lib.hid hb; have HA7 := Lib.hid (HA6.out.fresh HY.out ha); have HP7 := Lib.hid (HP3.out.step HA7.out); clear hb ha)
        | (refine kop_load rfl _ rfl y HY7.out rfl Tryz.underlying44 rfl sizeT (tc_size _) ?_)
        | (refine kop_pl rfl _ _ rfl k x rfl rfl ?_)
        | (go_at_call 80; refine (HTKK.out _ HP7.out).mono ?_; rintro e w8 ⟨rfl, h8, a8⟩; have HP8 := Lib.hid h8; have HA8 := Lib.hid ((HA3.out.trans (adv_wk HA7.out)).trans a8); clear h8 a8)
        | fail)
      have hlt := HLT.out
      exact ⟨⟨k + 1, by omega, by go_num, HP8.out, HA8.out⟩, by simp [intOf]; omega⟩
    · obtain rfl : k = n := by omega
      clear hk hp ha hlt d0 d2 g2 d3
      go_wp2_with fail
      go_ret
      exact ⟨rfl, by have := HP3.out; rw [HALL.out] at this; exact this, HA3.out⟩
end Go.Proofs.YtcglfknkkeaegaaGreatDoor
namespace Go.Proofs.YtcglfknkkeaegaaGreatDoor
open Go.ChangeShapes Go.WideShapes Go.ChangeAt Go.RowKit Go.Maps
set_option maxRecDepth 3000 in
theorem number_p {w : World} {E : PE} (h : Pk w E) : Calls Tryz.prog 40 #[.pointer (some ⟨E.c, 0, none⟩)] w fun e w' => e = .returned (.int .u64 (E.num : Int)) ∧ w = w' := by
  have HM := Lib.hid (pmade_any w E h)
  have c2 := h.c2
  generalize E.c = c at HM c2 ⊢
  generalize E.num = x at c2 ⊢
  clear h
  go_enter Tryz.func40, Tryz.ntmps40
  go_wp2_with (first
    | (go_at_call 46; refine HM.out.mono ?_; rintro e w1 ⟨rfl, rfl⟩)
    | fail)
  go_ret
  exact ⟨rfl, rfl⟩
set_option maxRecDepth 3000 in
theorem QRd.one {w : World} {G : Nat → Prop} {y z : Nat} {a : Int} {d : List Nat} (h : Blk w y 133 #[.int .i64 a, .slice (some ⟨z, 0, none⟩) 128 128]) (hd : d.length = 128) (hr : Rd w 1 (.slice (some ⟨z, 0, none⟩) 128 128) 128 (d.map u8)) (hy : ¬ G y) (hz : ¬ G z) : QRd w G (.slice (some ⟨y, 0, none⟩) 1 1) [⟨a, d⟩] :=
  ⟨_, 1, rfl, Nat.le_refl 1, by unfold maxLen; omega, fun _ => ⟨y, 0, rfl, ⟨h.lt, hy⟩, fun i hi => by
    obtain rfl : i = 0 := by simpa using hi
    refine ⟨some ⟨z, 0, none⟩, 128, h.cell 0, ?_, ?_, fun k hk _ => ?_⟩
    · show w.cell? ⟨y, 0 + (0 * 2 + 1), none⟩ = some (.slice (some ⟨z, 0, none⟩) d.length 128)
      rw [hd]; exact h.cell 1
    · show Rd w 1 (.slice (some ⟨z, 0, none⟩) d.length 128) d.length (d.map u8)
      rw [hd]; exact hr
    · have : z = k := by simpa [Value.ownBlock] using hk
      rw [← this]; exact hz⟩⟩
structure SnR where
  s : DS
  g : LS
  num : Nat
  e : Int
def snE (E : PE) (x : Nat) : SnR :=
  if x ≤ 1099511627775 then
    if (wrtG E.s E.n E.N E.g [⟨0, numS x⟩]).2 = 0 then
      if (syncG (wrtG E.s E.n E.N E.g [⟨0, numS x⟩]).1.1 (wrtG E.s E.n E.N E.g [⟨0, numS x⟩]).1.2).2 = 0 then
        ⟨(syncG (wrtG E.s E.n E.N E.g [⟨0, numS x⟩]).1.1 (wrtG E.s E.n E.N E.g [⟨0, numS x⟩]).1.2).1.1, (syncG (wrtG E.s E.n E.N E.g [⟨0, numS x⟩]).1.1 (wrtG E.s E.n E.N E.g [⟨0, numS x⟩]).1.2).1.2, x, 0⟩
      else ⟨(syncG (wrtG E.s E.n E.N E.g [⟨0, numS x⟩]).1.1 (wrtG E.s E.n E.N E.g [⟨0, numS x⟩]).1.2).1.1, (syncG (wrtG E.s E.n E.N E.g [⟨0, numS x⟩]).1.1 (wrtG E.s E.n E.N E.g [⟨0, numS x⟩]).1.2).1.2, E.num, (syncG (wrtG E.s E.n E.N E.g [⟨0, numS x⟩]).1.1 (wrtG E.s E.n E.N E.g [⟨0, numS x⟩]).1.2).2⟩
    else ⟨(wrtG E.s E.n E.N E.g [⟨0, numS x⟩]).1.1, (wrtG E.s E.n E.N E.g [⟨0, numS x⟩]).1.2, E.num, (wrtG E.s E.n E.N E.g [⟨0, numS x⟩]).2⟩
  else ⟨E.s, E.g, E.num, 2⟩
def PE.sn (E : PE) (F' : Nat → Prop) (r : SnR) : PE := (E.log F' r.s r.g).setN r.num
def PSn (w : World) (E : PE) (r : SnR) (e : Ending) (w' : World) : Prop := e = .returned (.int .i64 r.e) ∧ ∃ F', Pk w' (E.sn F' r) ∧ Adv E.V w (E.sn F' r).V w'
set_option maxRecDepth 3000 in
set_option maxHeartbeats 6400000 in
theorem setnumber_p {w : World} {E : PE} (h : Pk w E) (hw : WOk E.n E.N E.s E.g) {x : Nat} (hx : x < 18446744073709551616) :
    Calls Tryz.prog 38 #[.pointer (some ⟨E.c, 0, none⟩), .int .u64 (x : Int)] w (PSn w E (snE E x)) := by
  have HP := Lib.hid h
  have HM := Lib.hid (pmade_any w E h)
  unfold snE
  by_cases hm : x ≤ 1099511627775
  · rw [if_pos hm]
    have hmx : (x : Int) ≤ 1099511627775 := by omega
    have hgt : ((x : Int) > 1099511627775) = False := eq_false (by omega)
    have HEN := Lib.hid (encnum_any x hx)
    have HV := Lib.hid (show ∀ z, w.heap.size ≤ z → ¬ E.V z from fun z hz k => by have := h.bd z k; omega)
    have HWR := Lib.hid (fun W y z (r : Pk W E) (hb : Blk W y 133 #[.int .i64 0, .slice (some ⟨z, 0, none⟩) 128 128]) (hr : Rd W 1 (.slice (some ⟨z, 0, none⟩) 128 128) 128 ((numS x).map u8)) (hy : ¬ E.V y) (hz : ¬ E.V z) => write_p r hw (QRd.one hb (numS_length x) hr hy hz) (fun p hp => by rw [List.mem_singleton.1 hp]; exact numS_lt x))
    obtain ⟨W1, hW1⟩ : ∃ W1, W1 = wrtG E.s E.n E.N E.g [⟨0, numS x⟩] := ⟨_, rfl⟩
    rw [← hW1] at HWR ⊢
    obtain ⟨⟨s1, g1⟩, e1⟩ := W1
    unfold PWr at HWR
    simp only at HWR ⊢
    by_cases he1 : e1 = 0
    · subst he1
      rw [if_pos rfl]
      have HSY := Lib.hid (fun W F1 (r : Pk W (E.log F1 s1 g1)) => (gsync_lg E.l E.b E.d E.n E.N g1 F1 s1 W r.rs).mono (R' := PWr W (E.log F1 s1 g1) (syncG s1 g1)) fun e w' k => r.wrR k)
      obtain ⟨W2, hW2⟩ : ∃ W2, W2 = syncG s1 g1 := ⟨_, rfl⟩
      rw [← hW2] at HSY ⊢
      obtain ⟨⟨s2, g2⟩, e2⟩ := W2
      unfold PWr at HSY
      simp only at HSY ⊢
      obtain ⟨c, hc⟩ : ∃ c, c = E.c := ⟨_, rfl⟩
      obtain ⟨l, hl⟩ : ∃ c, c = E.l := ⟨_, rfl⟩
      have HC0 := Lib.hid (show ∀ W F s g, Pk W (E.log F s g) → W.cell? ⟨c, 0, none⟩ = some (.pointer (some ⟨l, 0, none⟩)) ∧ (∃ u, W.cell? ⟨c, 2, none⟩ = some (.int .u64 u)) ∧ W.frozen? ⟨c, 2, none⟩ = false from fun W F s g k => by
        rw [hc, hl]
        exact ⟨k.c0, ⟨_, k.c2⟩, k.blk.frozen 2⟩)
      have HNB := Lib.hid (show ∀ W F s g, Pk W (E.log F s g) → Pk (W.setCell ⟨c, 2, none⟩ (.int .u64 (x : Int))) ((E.log F s g).setN x) ∧ Adv (E.log F s g).V W (E.log F s g).V (W.setCell ⟨c, 2, none⟩ (.int .u64 (x : Int))) from fun W F s g k => by rw [hc]; exact k.numb x)
      rw [← hc] at HM HWR ⊢
      rw [← hl] at HSY
      by_cases he2 : e2 = 0
      · subst he2
        rw [if_pos rfl]
        clear h hw hx hm hW1 hW2 hc hl
        go_enter Tryz.func38, Tryz.ntmps38
        go_wp2_with (first
          | (go_at_call 46; refine HM.out.mono ?_; rintro e w1 ⟨rfl, rfl⟩)
          | (go_at_call 72; refine (HEN.out _).mono ?_; rintro e w2 ⟨z, rfl, s2', a2⟩; have HS2 := Lib.hid s2'; have HA2 := Lib.hid a2.nul; have HZ := Lib.hid (HV.out z (by rcases a2.into z rfl with k | k; exact k.elim; exact k)); clear s2' a2)
          | (refine kop_bslice (C := #[.int .i64 0, .slice (some ⟨z, 0, none⟩) 128 128]) rfl _ rfl Tryz.underlying134 infoPut rfl rfl (by decide) (by decide) ?_; intro y wx hy hb ha; have HY := Lib.hid (HV.out y (Nat.le_trans HA2.out.size hy)); have HYB := Lib.hid hb; have HAX := Lib.hid (HA2.out.trans ha); have HPX := Lib.hid (HP.out.step (HA2.out.trans ha)); have HRX := Lib.hid (HS2.out.rd.far (fun _ _ _ hl => ha.block _ hl (fun x => x)) ha.size); clear hy hb ha)
          | (go_at_call 71; refine (HWR.out _ y z HPX.out HYB.out HRX.out HY.out HZ.out).mono ?_; rintro e w3 ⟨rfl, F3, h3, a3⟩; have HP3 := Lib.hid h3; have HA3 := Lib.hid ((adv_wk HAX.out).trans a3); have c0 := (HC0.out _ _ _ _ h3).1; clear h3 a3)
          | (go_at_call 73; refine (HSY.out _ F3 HP3.out).mono ?_; rintro e w4 ⟨rfl, F4, h4, a4⟩; have HP4 := Lib.hid h4; have HA4 := Lib.hid (HA3.out.trans a4); obtain ⟨-, ⟨u, d2⟩, g2'⟩ := HC0.out w4 F4 s2 g2 h4; have HNB4 := Lib.hid (HNB.out w4 F4 s2 g2 h4); clear h4 a4 c0)
          | fail)
        go_ret
        exact ⟨rfl, F4, HNB4.out.1, HA4.out.trans HNB4.out.2⟩
      · rw [if_neg he2]
        have heb : (e2 != 0) = true := by rw [bne_iff_ne]; exact he2
        clear h hw hx hm hW1 hW2 hc hl he2
        go_enter Tryz.func38, Tryz.ntmps38
        go_wp2_with (first
          | (go_at_call 46; refine HM.out.mono ?_; rintro e w1 ⟨rfl, rfl⟩)
          | (go_at_call 72; refine (HEN.out _).mono ?_; rintro e w2 ⟨z, rfl, s2', a2⟩; have HS2 := Lib.hid s2'; have HA2 := Lib.hid a2.nul; have HZ := Lib.hid (HV.out z (by rcases a2.into z rfl with k | k; exact k.elim; exact k)); clear s2' a2)
          | (refine kop_bslice (C := #[.int .i64 0, .slice (some ⟨z, 0, none⟩) 128 128]) rfl _ rfl Tryz.underlying134 infoPut rfl rfl (by decide) (by decide) ?_; intro y wx hy hb ha; have HY := Lib.hid (HV.out y (Nat.le_trans HA2.out.size hy)); have HYB := Lib.hid hb; have HAX := Lib.hid (HA2.out.trans ha); have HPX := Lib.hid (HP.out.step (HA2.out.trans ha)); have HRX := Lib.hid (HS2.out.rd.far (fun _ _ _ hl => ha.block _ hl (fun x => x)) ha.size); clear hy hb ha)
          | (go_at_call 71; refine (HWR.out _ y z HPX.out HYB.out HRX.out HY.out HZ.out).mono ?_; rintro e w3 ⟨rfl, F3, h3, a3⟩; have HP3 := Lib.hid h3; have HA3 := Lib.hid ((adv_wk HAX.out).trans a3); have c0 := (HC0.out _ _ _ _ h3).1; clear h3 a3)
          | (go_at_call 73; refine (HSY.out _ F3 HP3.out).mono ?_; rintro e w4 ⟨rfl, F4, h4, a4⟩; have HP4 := Lib.hid h4; have HA4 := Lib.hid (HA3.out.trans a4); clear h4 a4 c0)
          | fail)
        go_ret
        exact ⟨rfl, F4, HP4.out, HA4.out⟩
    · rw [if_neg he1]
      have heb : (e1 != 0) = true := by rw [bne_iff_ne]; exact he1
      obtain ⟨c, hc⟩ : ∃ c, c = E.c := ⟨_, rfl⟩
      rw [← hc] at HM HWR ⊢
      clear h hw hx hm hW1 hc he1
      go_enter Tryz.func38, Tryz.ntmps38
      go_wp2_with (first
        | (go_at_call 46; refine HM.out.mono ?_; rintro e w1 ⟨rfl, rfl⟩)
        | (go_at_call 72; refine (HEN.out _).mono ?_; rintro e w2 ⟨z, rfl, s2', a2⟩; have HS2 := Lib.hid s2'; have HA2 := Lib.hid a2.nul; have HZ := Lib.hid (HV.out z (by rcases a2.into z rfl with k | k; exact k.elim; exact k)); clear s2' a2)
        | (refine kop_bslice (C := #[.int .i64 0, .slice (some ⟨z, 0, none⟩) 128 128]) rfl _ rfl Tryz.underlying134 infoPut rfl rfl (by decide) (by decide) ?_; intro y wx hy hb ha; have HY := Lib.hid (HV.out y (Nat.le_trans HA2.out.size hy)); have HYB := Lib.hid hb; have HAX := Lib.hid (HA2.out.trans ha); have HPX := Lib.hid (HP.out.step (HA2.out.trans ha)); have HRX := Lib.hid (HS2.out.rd.far (fun _ _ _ hl => ha.block _ hl (fun x => x)) ha.size); clear hy hb ha)
        | (go_at_call 71; refine (HWR.out _ y z HPX.out HYB.out HRX.out HY.out HZ.out).mono ?_; rintro e w3 ⟨rfl, F3, h3, a3⟩; have HP3 := Lib.hid h3; have HA3 := Lib.hid ((adv_wk HAX.out).trans a3); clear h3 a3)
        | fail)
      go_ret
      exact ⟨rfl, F3, HP3.out, HA3.out⟩
  · rw [if_neg hm]
    have hmx : (1099511627775 : Int) < (x : Int) := by omega
    generalize E.c = c at HM ⊢
    clear h hw hx hm
    go_enter Tryz.func38, Tryz.ntmps38
    go_wp2_with (first
      | (go_at_call 46; refine HM.out.mono ?_; rintro e w1 ⟨rfl, rfl⟩)
      | fail)
    go_ret
    exact ⟨rfl, E.F, HP.out, Adv.refl _ _⟩
end Go.Proofs.YtcglfknkkeaegaaGreatDoor
