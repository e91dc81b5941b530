/- What stands where a slot's parts do: the program's parts, Decode. -/
import Derived.Test.YtbjenpkgcdppaaaStB
import Derived.Test.YtbjenpkgcdppaaaRText
import Derived.Test.YtbjenpkgcdppaaaItx
namespace Go.Proofs.Ytbjenpkgcdppaaa
open Go.ChangeShapes Go.WideShapes Go.ChangeAt Go.RowKit

set_option maxRecDepth 3000 in
theorem kres1 {fn : Func} {p : Tmp} {ty : TypeId} (h : fn.results = #[.cell p ty]) (tmps : Array Value) (w : World) {z : Nat} {t : TypeId} {C : Array Value} {d : TypeDesc} (hp : tmps.getD p undef = .pointer (some ⟨z, 0, none⟩)) (hB : Blk w z t C)
    (hu : Try.prog.underlying ty = some d) (hd : d.isRow = true) (hi : (Try.prog.info? ty).map (·.size) = some C.size) : (results fn tmps).run Try.prog w = .ok (.agg C) w := by
  have hp' : tmps[p]?.getD undef = .pointer (some ⟨z, 0, none⟩) := by simpa using hp
  have hl := run_loadVar_mid (P := Try.prog) w z 0 ty C.toList d (Blk.range hB) hu hd (by rw [hi, Array.length_toList])
  rw [Array.toArray_toList] at hl
  simp only [results, h]
  simp [hp', asAddr, hl]
set_option maxRecDepth 3000 in
theorem trst_far {w w' : World} {F : Nat → Prop} {b q V a : Nat} (h : RSt w F b q V a) (hb : Bd F w) (hk : ∀ k, F k → w'.heap[k]? = w.heap[k]?) (hs : w.heap.size ≤ w'.heap.size) : RSt w' F b q V a ∧ Bd F w' := by
  obtain ⟨rv, hB, hS⟩ := h.ex
  exact ⟨⟨⟨rv, hB.keep (hk b h.inF), ⟨own_keep hS.own fun k e => hk k (hS.inF k e), hS.inF, fun k e => Nat.lt_of_lt_of_le (hb k e) hs⟩⟩, h.inF, h.le, h.sm⟩, fun k e => Nat.lt_of_lt_of_le (hb k e) hs⟩
set_option maxRecDepth 3000 in
theorem wrap_bitsT (q V a n : Nat) (hn : n ≤ 62) : wrap64 ((bitsAt q V a n : Nat) : Int) = ((bitsAt q V a n : Nat) : Int) := by
  have h := bitsAt_lt q V a n
  have h2 : 2 ^ n ≤ 2 ^ 62 := Nat.pow_le_pow_right (by decide) hn
  unfold wrap64; omega
/-- while parts are read: the reader, the slot so far in block u, the zero one in block z -/
structure RdS (W : World) (z u b V at' : Nat) (F : Nat → Prop) (C : Array Value) (w : World) : Prop where
  rs : RSt w F b 128 V at'
  bd : Bd F w
  bu : Blk w u 34 C
  bz : Blk w z 34 (tc zeroT)
  ad : Adv Nul W F w
  fu : ¬ F u
  fz : ¬ F z
  uz : u ≠ z
  nu : W.heap.size ≤ u
  nz : W.heap.size ≤ z
section
variable {W w w' : World} {z u b V at' at2 : Nat} {F : Nat → Prop} {C : Array Value}
set_option maxRecDepth 3000 in
theorem RdS.get (h : RdS W z u b V at' F C w) (hr : RSt w' F b 128 V at2) (ha : Adv F w F w') (hb : Bd F w') : RdS W z u b V at2 F C w' :=
  ⟨hr, hb, h.bu.keep (ha.block u h.bu.lt h.fu), h.bz.keep (ha.block z h.bz.lt h.fz), h.ad.trans ha, h.fu, h.fz, h.uz, h.nu, h.nz⟩
set_option maxRecDepth 3000 in
theorem RdS.set (h : RdS W z u b V at' F C w) (k : Nat) (v : Value) : RdS W z u b V at' F (C.setIfInBounds k v) (w.setCell ⟨u, k, none⟩ v) := by
  have hF : ∀ k, F k → k ≠ u := fun k hk e => h.fu (e ▸ hk)
  obtain ⟨h1, h2⟩ := trst_far (w' := w.setCell ⟨u, k, none⟩ v) h.rs h.bd (fun i hi => heap_setCell_other w ⟨u, k, none⟩ i v (hF i hi)) (by simp)
  exact ⟨h1, h2, h.bu.set_ k v, h.bz.far (p := ⟨u, k, none⟩) (fun e => h.uz e.symm) v, h.ad.setCell (.inr h.nu) v, h.fu, h.fz, h.uz, h.nu, h.nz⟩
end
set_option maxRecDepth 3000 in
set_option maxHeartbeats 3200000 in
theorem sparts_any (v : Value) (l : List Nat) (w : World) (h : Rd w 1 v 128 (l.map u8)) (hl : l.length = 128) (hb : ∀ x ∈ l, x < 256) :
    Calls Try.prog 29 #[v] w fun e w' => e = .returned (.agg (tc (prT (byN l)))) ∧ Adv Nul w Nul w' := by
  obtain ⟨A, c, rfl, _, hc⟩ := h.form
  obtain ⟨z, hz⟩ : ∃ z, z = w.heap.size := ⟨_, rfl⟩
  obtain ⟨V0, hV⟩ : ∃ V, V = w.alloc (.cells (tc zeroT) 34) := ⟨_, rfl⟩
  have HZ := Lib.hid (show Blk V0 z 34 (tc zeroT) by rw [hV, hz]; exact Blk.new _ _ _)
  have HA := Lib.hid (show Adv Nul w Nul V0 by rw [hV]; exact (Adv.refl _ _).alloc _)
  obtain ⟨V, hVN⟩ : ∃ V, V = byN l := ⟨_, rfl⟩
  have hopen : Calls Try.prog 40 #[.slice A 128 c] V0 fun e w' => ∃ b F, e = .returned (.pointer (some ⟨b, 0, none⟩)) ∧ RSt w' F b 128 V 0 ∧ Adv Nul V0 F w' ∧ Bd F w' := open_any _ 128 V V0 (by rw [hVN, ← hl, be_byN l hb, hl, hV]; exact h.far (fun k _ _ hk => Below.heap_alloc _ _ _ hk) (by simp)) (by decide)
  rw [← hVN]
  have HO := Lib.hid hopen
  have HV := Lib.hid hV
  have HZZ := Lib.hid hz
  have HLZ := Lib.hid (show w.heap.size ≤ z by rw [hz]; exact Nat.le_refl _)
  clear hopen hVN hV hz h hl hb
  have hzc : tc zeroT = #[.bool false, .int .i64 0, .int .i64 0, .int .i64 0, .int .u64 0, .bool false, .string ⟨#[]⟩] := rfl
  rw [hzc] at HV
  clear hzc
  have e0 := wrap_bitsT 128 V 2 6 (by decide)
  have e1 := wrap_bitsT 128 V 8 31 (by decide)
  have e2 := wrap_bitsT 128 V 39 3 (by decide)
  go_enter Try.func29, Try.ntmps29
  go_upto_region 1 with (fail)
  rw [← HV.out, ← HZZ.out]
  go_upto_region 3 with (first
    | (go_at_call 40; refine HO.out.mono ?_; rintro e w1 ⟨b, F, rfl, r1, a1, b1⟩; have HR1 := Lib.hid r1; have HA1 := Lib.hid (HA.out.trans a1); have HB1 := Lib.hid b1; have HZ1 := Lib.hid (HZ.out.keep (a1.block z HZ.out.lt (fun h => h))); have HF1 := Lib.hid (show ¬ F z from fun h => by rcases a1.into z h with h | h; exact h.elim; exact absurd HZ.out.lt (by omega)); clear r1 a1 b1)
    | (go_at_call 41; refine (get_ok b 128 V 0 1 F _ HR1.out HB1.out (by decide) (by decide)).mono ?_; rintro e w2 ⟨rfl, r2, a2, b2⟩; have HR2 := Lib.hid r2; have HA2 := Lib.hid (HA1.out.trans a2); have HB2 := Lib.hid b2; have HZ2 := Lib.hid (HZ1.out.keep (a2.block z HZ1.out.lt HF1.out)); clear r2 a2 b2 HR1)
    | (go_at_call 41; refine (get_ok b 128 V 1 1 F _ HR2.out HB2.out (by decide) (by decide)).mono ?_; rintro e w3 ⟨rfl, r3, a3, b3⟩; have HR3 := Lib.hid r3; have HA3 := Lib.hid (HA2.out.trans a3); have HB3 := Lib.hid b3; have HZ3 := Lib.hid (HZ2.out.keep (a3.block z HZ2.out.lt HF1.out)); clear r3 a3 b3 HR2)
    | fail)
  obtain ⟨u, hue⟩ : ∃ u, u = w3.heap.size := ⟨_, rfl⟩
  obtain ⟨C0, hC0⟩ : ∃ C : Array Value, C = #[.bool (((bitsAt 128 V 0 1 : Nat) : Int) != 0), .int .i64 0, .int .i64 0, .int .i64 0, .int .u64 0, .bool (((bitsAt 128 V 1 1 : Nat) : Int) != 0), .string ⟨#[]⟩] := ⟨_, rfl⟩
  obtain ⟨W4, hW4⟩ : ∃ W4, W4 = w3.alloc (.cells C0 34) := ⟨_, rfl⟩
  have hs : RdS w z u b V 2 F C0 W4 := by
    obtain ⟨k1, k2⟩ := trst_far (w' := W4) HR3.out HB3.out (fun k hk => by rw [hW4]; exact Below.heap_alloc _ _ _ (HB3.out k hk)) (by rw [hW4]; simp)
    have e : u ≠ z := fun e => by have := HZ3.out.lt; omega
    refine ⟨k1, k2, ?_, ?_, ?_, fun h => ?_, HF1.out, e, ?_, HLZ.out⟩
    · rw [hW4, hue]; exact Blk.new _ _ _
    · rw [hW4]; exact HZ3.out.alloc _
    · rw [hW4]; exact HA3.out.alloc _
    · have := HB3.out u h; omega
    · rw [hue]; exact HA3.out.size
  have HS := Lib.hid hs
  have HC0 := Lib.hid hC0
  rw [hC0] at hW4
  rw [← hue, ← hW4]
  clear hs hW4 hC0 hue HR3 HA3 HB3 HZ3 HA2 HZ1 HZ2 HB1 HB2
  go_upto_region 6 with (first
    | (go_at_call 41; refine (get_ok b 128 V 2 6 F _ HS.out.rs HS.out.bd (by decide) (by decide)).mono ?_; rintro e w5 ⟨rfl, r5, a5, b5⟩; have HS5 := Lib.hid (HS.out.get r5 a5 b5); clear r5 a5 b5 HS)
    | (go_at_call 41; refine (get_ok b 128 V 8 31 F _ HS5.out.rs HS5.out.bd (by decide) (by decide)).mono ?_; rintro e w6 ⟨rfl, r6, a6, b6⟩; have HS6 := Lib.hid (((HS5.out.get r6 a6 b6).set 1 (.int .i64 ((bitsAt 128 V 2 6 : Nat) : Int))).set 2 (.int .i64 ((bitsAt 128 V 8 31 : Nat) : Int))); have hB6 := (HS5.out.get r6 a6 b6).bu; rw [HC0.out] at hB6; have c1 := hB6.cell 1; have c2 := hB6.cell 2; have f1 := hB6.frozen 1; have f2 := hB6.frozen 2; clear r6 a6 b6 hB6 HS5)
    | (go_at_call 41; refine (get_ok b 128 V 39 3 F _ HS6.out.rs HS6.out.bd (by decide) (by decide)).mono ?_; rintro e w7 ⟨rfl, r7, a7, b7⟩; have HS7 := Lib.hid ((HS6.out.get r7 a7 b7).set 3 (.int .i64 ((bitsAt 128 V 39 3 : Nat) : Int))); have hB7 := (HS6.out.get r7 a7 b7).bu; rw [HC0.out] at hB7; have c3 := hB7.cell 3; have f3 := hB7.frozen 3; clear r7 a7 b7 hB7 HS6)
    | (go_at_call 41; refine (get_ok b 128 V 42 40 F _ HS7.out.rs HS7.out.bd (by decide) (by decide)).mono ?_; rintro e w8 ⟨rfl, r8, a8, b8⟩; have HS8 := Lib.hid ((HS7.out.get r8 a8 b8).set 4 (.int .u64 ((bitsAt 128 V 42 40 : Nat) : Int))); have hB8 := (HS7.out.get r8 a8 b8).bu; rw [HC0.out] at hB8; have c4 := hB8.cell 4; have f4 := hB8.frozen 4; clear r8 a8 b8 hB8 HS7)
    | fail)
  by_cases hn : 98 + 8 * bitsAt 128 V 82 16 ≤ 1024
  · have HTX := Lib.hid (show tc (prT V) = (((((C0.setIfInBounds 1 (.int .i64 ((bitsAt 128 V 2 6 : Nat) : Int))).setIfInBounds 2 (.int .i64 ((bitsAt 128 V 8 31 : Nat) : Int))).setIfInBounds 3 (.int .i64 ((bitsAt 128 V 39 3 : Nat) : Int))).setIfInBounds 4 (.int .u64 ((bitsAt 128 V 42 40 : Nat) : Int))).setIfInBounds 6 (.string ⟨(bytesAt 128 V (82 + 16) (bitsAt 128 V 82 16)).toArray⟩)) by unfold prT; rw [if_pos hn, HC0.out]; rfl)
    have HN := Lib.hid hn
    clear hn
    go_wp2_with (first
      | (go_at_call 42; refine (rtext_ok b 128 V 82 _ F _ HS8.out.rs HS8.out.bd rfl (by have := HN.out; omega)).mono ?_; rintro e w9 ⟨rfl, r9, a9, b9⟩; have HS9 := Lib.hid ((HS8.out.get r9 a9 b9).set 6 (.string ⟨(bytesAt 128 V (82 + 16) (bitsAt 128 V 82 16)).toArray⟩)); have hB9 := (HS8.out.get r9 a9 b9).bu; rw [HC0.out] at hB9; have c6 := hB9.cell 6; have f6 := hB9.frozen 6; rw [← HTX.out] at HS9; clear r9 a9 b9 hB9 HS8)
      | (refine kop_load rfl _ rfl u HS9.out.bu rfl Try.underlying34 rfl sizeT (tc_size _) ?_)
      | (refine kop_store rfl _ _ rfl z HS9.out.bz rfl rfl sizeT (tc_size _) (tc_size _) (tc_one _) ?_; intro w10 hb ha; have HB10 := Lib.hid hb; have HA10 := Lib.hid ((HS9.out.ad.nul).fresh HLZ.out ha); clear hb ha)
      | fail)
    exact bodyPost_ret (kres1 rfl _ _ rfl HB10.out Try.underlying34 rfl (by rw [sizeT]; rfl)) rfl ⟨rfl, HA10.out⟩
  · have HTX := Lib.hid (show tc (prT V) = (((((C0.setIfInBounds 1 (.int .i64 ((bitsAt 128 V 2 6 : Nat) : Int))).setIfInBounds 2 (.int .i64 ((bitsAt 128 V 8 31 : Nat) : Int))).setIfInBounds 3 (.int .i64 ((bitsAt 128 V 39 3 : Nat) : Int))).setIfInBounds 4 (.int .u64 ((bitsAt 128 V 42 40 : Nat) : Int))).setIfInBounds 6 (.string ⟨#[]⟩)) by unfold prT; rw [if_neg hn, HC0.out]; rfl)
    have HN := Lib.hid hn
    clear hn
    go_wp2_with (first
      | (go_at_call 42; refine (rtext_short b 128 V 82 F _ HS8.out.rs HS8.out.bd (.inr (by have := HN.out; omega))).mono ?_; rintro e w9 ⟨rfl, _, a9⟩; have HB9 := Lib.hid ((HS8.out.bu.keep (a9.block u HS8.out.bu.lt HS8.out.fu)).set_ 6 (.string ⟨#[]⟩)); have hB9 := HS8.out.bu.keep (a9.block u HS8.out.bu.lt HS8.out.fu); rw [HC0.out] at hB9; have c6 := hB9.cell 6; have f6 := hB9.frozen 6; rw [← HTX.out] at HB9; have HZ9 := Lib.hid ((HS8.out.bz.keep (a9.block z HS8.out.bz.lt HS8.out.fz)).far (p := ⟨u, 6, none⟩) (fun e => HS8.out.uz e.symm) (.string ⟨#[]⟩)); have HA9 := Lib.hid (((HS8.out.ad.trans a9).setCell (p := ⟨u, 6, none⟩) (.inr HS8.out.nu) (.string ⟨#[]⟩)).nul); clear a9 hB9 HS8)
      | (refine kop_load rfl _ rfl u HB9.out rfl Try.underlying34 rfl sizeT (tc_size _) ?_)
      | (refine kop_store rfl _ _ rfl z HZ9.out rfl rfl sizeT (tc_size _) (tc_size _) (tc_one _) ?_; intro w10 hb ha; have HB10 := Lib.hid hb; have HA10 := Lib.hid (HA9.out.fresh HLZ.out ha); clear hb ha)
      | fail)
    exact bodyPost_ret (kres1 rfl _ _ rfl HB10.out Try.underlying34 rfl (by rw [sizeT]; rfl)) rfl ⟨rfl, HA10.out⟩
end Go.Proofs.Ytbjenpkgcdppaaa
