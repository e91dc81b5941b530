/- The program's map: Copy, Bytes, behind. -/
import Derived.Test.YtekafclhddhnpaaAmD
namespace Go.Proofs.Ytekafclhddhnpaa
open Go.RowKit

theorem adv_new (w : World) (o : Obj) : Adv Nul w (One w.heap.size) (w.alloc o) := ⟨rfl, rfl, rfl, by simp, fun k hk _ => Below.heap_alloc _ _ _ hk, fun k hk => .inr (by rw [show k = w.heap.size from hk]; exact Nat.le_refl _)⟩
theorem Blk.range {w : World} {z : Nat} {t : TypeId} {C : Array Value} (h : Blk w z t C) : w.rangeAt z 0 C.toList := fun j v hv => by
  rw [Nat.zero_add, h.cell]
  simpa using hv
theorem Blk.rangeRow {w : World} {z n : Nat} {r : List Nat} (h : Blk w z 57 (mcells n r)) : w.rangeAt z 1 (r.map u8) := fun j v hv => by
  rw [h.cell]
  unfold mcells
  rw [List.getElem?_toArray, show 1 + j = j + 1 by omega, List.getElem?_cons_succ]
  exact hv

set_option maxRecDepth 3000 in
theorem copy_am (w : World) (d : Nat) (T : List Bool) (h : Am w d T) : Calls Try.prog 27 #[.pointer (some ⟨d, 0, none⟩)] w fun e w' => ∃ z, e = .returned (.pointer (some ⟨z, 0, none⟩)) ∧ Am w' z T ∧ Adv Nul w (One z) w' := by
  have HD := Lib.hid (made_am w d T h)
  obtain ⟨r, hr, h1, h2, hb⟩ := h
  have HR := Lib.hid hb.range
  have HS := Lib.hid (mcells_size (n := T.length) hr.len)
  have HO := Lib.hid (one_mcells T.length r)
  have HF := Lib.hid (show ∀ w : World, Am (w.alloc (.cells (mcells T.length r) 57)) w.heap.size T from fun w => ⟨r, hr, h1, h2, Blk.new _ _ _⟩)
  have HAd := Lib.hid (show ∀ (w : World) (o : Obj), Adv Nul w (One w.heap.size) (w.alloc o) from fun w o => adv_new w o)
  obtain ⟨C, hC⟩ : ∃ C, C = mcells T.length r := ⟨_, rfl⟩
  rw [← hC] at HF HR HS HO
  obtain ⟨Z, hZ⟩ : ∃ Z, Z = zM := ⟨_, rfl⟩
  have HZ := Lib.hid (show Z.size = 129 by rw [hZ]; exact mcells_size (by simp))
  have HI := Lib.hid infoMap
  rw [← hZ] at HI
  clear hC hr h1 h2 hb hZ
  go_enter Try.func27, Try.ntmps27
  go_wp2_with (first
    | (go_at_call 28; refine HD.out.mono ?_; rintro e w1 ⟨rfl, rfl⟩)
    | (refine wpList_load_mid rfl 57 (.tmp 8) rfl d 0 rfl C.toList _ HR.out Try.underlying57 rfl (by rw [sizeMap, Array.length_toList, HS.out]) ?_)
    | (refine aop_alloc rfl rfl HI.out ?_)
    | (refine aop_store_new rfl (.tmp 3) (.tmp 9) rfl _ rfl rfl rfl sizeMap HS.out HZ.out HO.out ?_)
    | fail)
  go_ret
  exact ⟨_, rfl, HF.out _, HAd.out _ _⟩

set_option maxRecDepth 3000 in
theorem bytes_am (w : World) (d : Nat) (T : List Bool) (h : Am w d T) : Calls Try.prog 20 #[.pointer (some ⟨d, 0, none⟩)] w fun e w' => ∃ z r, e = .returned (.slice (some ⟨z, 0, none⟩) 128 128) ∧ Rep r T ∧ Sl w' (One z) 55 1 (.slice (some ⟨z, 0, none⟩) 128 128) 128 (r.map u8) ∧ Adv Nul w (One z) w' := by
  have HD := Lib.hid (made_am w d T h)
  obtain ⟨r, hr, h1, h2, hb⟩ := h
  have HR := Lib.hid hb.rangeRow
  have HS := Lib.hid (show ((r.map u8).toArray).size = 128 by simpa using hr.len)
  have HO := Lib.hid (one_row r)
  have HF := Lib.hid (show ∀ w : World, Sl (w.alloc (.cells (r.map u8).toArray 55)) (One w.heap.size) 55 1 (.slice (some ⟨w.heap.size, 0, none⟩) 128 128) 128 (r.map u8) from fun w => (Blk.new w 55 (r.map u8).toArray).sl8 hr.len)
  have HAd := Lib.hid (show ∀ (w : World) (o : Obj), Adv Nul w (One w.heap.size) (w.alloc o) from fun w o => adv_new w o)
  have HRep := Lib.hid hr
  obtain ⟨C, hC⟩ : ∃ C, C = (r.map u8).toArray := ⟨_, rfl⟩
  obtain ⟨L, hL⟩ : ∃ L, L = r.map u8 := ⟨_, rfl⟩
  have HL := Lib.hid (show L.toArray = C by rw [hC, hL])
  have HLen := Lib.hid (show L.length = 128 by rw [hL]; simpa using hr.len)
  rw [← hL] at HR
  rw [← hC] at HF HS HO
  obtain ⟨Z, hZ⟩ : ∃ Z, Z = zR := ⟨_, rfl⟩
  have HZ := Lib.hid (show Z.size = 128 by rw [hZ]; simp [zR])
  have HI := Lib.hid infoRow
  rw [← hZ] at HI
  clear hC hr h1 h2 hb hZ hL
  go_enter Try.func20, Try.ntmps20
  go_wp2_with (first
    | (go_at_call 28; refine HD.out.mono ?_; rintro e w1 ⟨rfl, rfl⟩)
    | (refine wpList_load_mid rfl 55 (.tmp 9) rfl d 1 rfl L _ HR.out Try.underlying55 rfl (by rw [sizeRow, HLen.out]) ?_; rw [HL.out])
    | (refine aop_alloc rfl rfl HI.out ?_)
    | (refine aop_store_new rfl (.tmp 3) (.tmp 10) rfl _ rfl rfl rfl sizeRow HS.out HZ.out HO.out ?_)
    | fail)
  go_ret
  exact ⟨_, r, rfl, HRep.out, HF.out _, HAd.out _ _⟩

def BehL (w : World) (z : Nat) (f : Nat → Bool) (n : Nat) (t13 : Value) (wr : World) : Prop :=
  ∃ (k : Nat) (r : List Nat), t13 = .int .i64 (k : Int) ∧ k ≤ n ∧ Bt r (fun j => decide (k ≤ j) && f j) ∧ Blk wr (z + 1) 55 (r.map u8).toArray ∧ Blk wr z 55 zR ∧ Adv Nul w (fun k => k = z ∨ k = z + 1) wr ∧ z = w.heap.size
theorem Blk.rowAt0 {w : World} {z : Nat} {r : List Nat} (h : Blk w z 55 (r.map u8).toArray) (hr : r.length = 128) : RowAt w z 0 r := fun j hj => ⟨by
  rw [h.cell, List.getElem?_toArray, Nat.zero_add, List.getElem?_map, List.getD_eq_getElem?_getD, List.getElem?_eq_getElem (by omega)]
  rfl, h.frozen _⟩
theorem row_set (r : List Nat) (j y : Nat) : ((r.map u8).toArray).setIfInBounds (0 + j) (.int .u8 (y : Int)) = ((r.set j y).map u8).toArray := by
  rw [List.setIfInBounds_toArray, List.map_set, Nat.zero_add]
  rfl
theorem BehL.next {w wr : World} {z n k : Nat} {f : Nat → Bool} {r : List Nat} (hk : k < n) (hn : n ≤ 1024) (hr : Bt r (fun j => decide (k ≤ j) && f j)) (h1 : Blk wr (z + 1) 55 (r.map u8).toArray) (h0 : Blk wr z 55 zR)
    (ha : Adv Nul w (fun k => k = z ∨ k = z + 1) wr) (hz : z = w.heap.size) (m : Nat) (v : Int) (hv : v = ((k + 1 : Nat) : Int)) :
    BehL w z f n (.int .i64 v) ((wr.drewN m).setCell ⟨z + 1, k / 8, none⟩ (.int .u8 ((r.getD (k / 8) 0 &&& (255 - bitN k) : Nat) : Int))) := by
  rw [← Nat.zero_add (k / 8)]
  rw [show r.getD (0 + k / 8) 0 = r.getD (k / 8) 0 by rw [Nat.zero_add]]
  refine ⟨k + 1, dropB r k, by rw [hv], by omega, (hr.drop (by omega)).congr fun j _ => ?_, ?_, ?_, ?_, hz⟩
  · by_cases e : j = k
    · subst e
      rw [decide_eq_true rfl, decide_eq_false (show ¬ j + 1 ≤ j by omega)]; rfl
    · by_cases h : k ≤ j
      · simp [h, e, show k + 1 ≤ j by omega]
      · simp [h, show ¬ k + 1 ≤ j by omega]
  · have h3 := (show Blk (wr.drewN m) (z + 1) 55 (r.map u8).toArray from h1).set_ (0 + k / 8) (.int .u8 ((r.getD (k / 8) 0 &&& (255 - bitN k) : Nat) : Int))
    rw [row_set] at h3
    exact h3
  · exact (show Blk (wr.drewN m) z 55 zR from h0).far (p := ⟨z + 1, 0 + k / 8, none⟩) (by simp) _
  · exact (ha.drewN m).setCell (p := ⟨z + 1, 0 + k / 8, none⟩) (.inr (by rw [hz]; simp)) _

theorem results_cell_one {fn : Func} {p : Tmp} {ty : TypeId} (h : fn.results = #[.cell p ty]) (tmps : Array Value) (P : Program) (w : World) {b o : Nat} {cs : List Value} {d : TypeDesc} (hp : tmps.getD p undef = .pointer (some ⟨b, o, none⟩)) (hc : w.rangeAt b o cs)
    (hu : P.underlying ty = some d) (hd : d.isRow = true) (hi : (P.info? ty).map (·.size) = some cs.length) : (results fn tmps).run P w = .ok (.agg cs.toArray) w := by
  have hp' : tmps[p]?.getD undef = .pointer (some ⟨b, o, none⟩) := by simpa using hp
  simp only [results, h]
  simp [hp', asAddr, run_loadVar_mid w b o ty cs d hc hu hd hi]
set_option maxRecDepth 3000 in
set_option maxHeartbeats 1600000 in
theorem behind_am (w : World) (d n : Nat) (f : Nat → Bool) (r : List Nat) (hr : Bt r f) (hn : n ≤ 1024) (hb : Blk w d 57 (mcells n r)) :
    Calls Try.prog 33 #[.pointer (some ⟨d, 0, none⟩)] w fun e w' => ∃ r', e = .returned (.agg (r'.map u8).toArray) ∧ Bt r' (fun j => decide (n ≤ j) && f j) ∧ Adv Nul w Nul w' := by
  obtain ⟨z, hz⟩ : ∃ z, z = w.heap.size := ⟨_, rfl⟩
  have HB := Lib.hid hb
  have HR := Lib.hid (fun o => ((show Blk (w.alloc o) d 57 (mcells n r) from hb.alloc o)).rangeRow)
  have HH := Lib.hid (fun o o' => (((show Blk ((w.alloc o).alloc o') d 57 (mcells n r) from (hb.alloc o).alloc o')).homes))
  have HS := Lib.hid (show ((r.map u8).toArray).size = 128 by simpa using hr.len)
  have HO := Lib.hid (one_row r)
  have HLen := Lib.hid (show (r.map u8).length = 128 by simpa using hr.len)
  have hn3 : (n : Int) ≤ 1024 := by omega
  have hn0 : (0 : Int) ≤ (n : Int) := by omega
  have HN := Lib.hid hn
  have HT := Lib.hid (fun (k : Nat) (r' : List Nat) (g : Nat → Bool) (hk : k < n) (hg : Bt r' g) (wr : World) (h1 : Blk wr (z + 1) 55 (r'.map u8).toArray) => rdrop_any (z + 1) 0 k r' (by omega) hg.lt wr (h1.rowAt0 hg.len))
  have HBt := Lib.hid hr
  have HSt := Lib.hid (show BehL w z f n (.int .i64 0) ((w.alloc (.cells zR 55)).alloc (.cells (r.map u8).toArray 55)) from
    ⟨0, r, rfl, Nat.zero_le _, hr.congr (fun _ _ => by simp), by rw [hz]; have := Blk.new (w.alloc (.cells zR 55)) 55 (r.map u8).toArray; simpa using this, by rw [hz]; exact (Blk.new w 55 zR).alloc _,
     ⟨rfl, rfl, rfl, by simp; omega, fun k hk _ => by rw [Below.heap_alloc _ _ _ (by simp; omega), Below.heap_alloc _ _ _ hk], fun k hk => .inr (by rcases hk with h | h <;> omega)⟩, hz⟩)
  obtain ⟨Z, hZ⟩ : ∃ Z, Z = zR := ⟨_, rfl⟩
  have HZ := Lib.hid (show Z.size = 128 by rw [hZ]; simp [zR])
  have HI := Lib.hid infoRow
  have HZZ := Lib.hid hZ
  rw [← hZ] at HI HSt
  have HZs := Lib.hid hz
  clear hr hn hb hZ hz
  go_enter Try.func33, Try.ntmps33
  go_wp2_with (first
    | (refine wpList_load_mid rfl 55 (.tmp 7) rfl d 1 rfl (r.map u8) _ (HR.out _) Try.underlying55 rfl (by rw [sizeRow, HLen.out]) ?_)
    | (refine aop_alloc rfl rfl HI.out ?_)
    | (refine aop_store_new rfl (.tmp 3) (.tmp 8) rfl _ rfl rfl rfl sizeRow HS.out HZ.out HO.out ?_; have h0 := HH.out (.cells Z 55) (.cells (r.map u8).toArray 55))
    | fail)
  rw [← HZs.out]
  go_loopw [13] (BehL w z f n) (fun t _ => n - (intOf t).toNat)
  case atStart => exact HSt.out
  case round =>
    obtain ⟨k, r', rfl, hk, hg, hb1, hb0, ha, hzz⟩ := hrel
    have HG := Lib.hid hg
    have HB1 := Lib.hid hb1
    have HB0 := Lib.hid hb0
    have HA := Lib.hid ha
    clear hg hb1 hb0 ha hzz
    by_cases hlt : k < n
    · have hlt' : (k : Int) < (n : Int) := by omega
      go_wp2_with (first
        | (go_at_call 32; refine (HT.out k r' _ hlt HG.out _ HB1.out).mono ?_; rintro e w1 ⟨rfl, m, rfl⟩)
        | fail)
      exact ⟨BehL.next hlt HN.out HG.out HB1.out HB0.out HA.out HZs.out m _ (by simp), by simp [intOf]; omega⟩
    · obtain rfl : k = n := by omega
      have HLr := Lib.hid (show (r'.map u8).length = 128 by simpa using HG.out.len)
      have HSr := Lib.hid (show ((r'.map u8).toArray).size = 128 by simpa using HG.out.len)
      have HRr := Lib.hid (show wr.rangeAt (z + 1) 0 (r'.map u8) by have := HB1.out.range; simpa using this)
      have HOr := Lib.hid (one_row r')
      have HZr := Lib.hid (show zR.size = 128 by simp [zR])
      go_wp2_with (first
        | (refine wpList_load_mid rfl 55 (.tmp 3) rfl (z + 1) 0 rfl (r'.map u8) _ HRr.out Try.underlying55 rfl (by rw [sizeRow, HLr.out]) ?_)
        | (refine wpList_store_row rfl 55 (.tmp 2) (.tmp 19) rfl z (r'.map u8).toArray rfl rfl 55 zR HB0.out (by rw [sizeRow, HSr.out]) (by rw [HZr.out, HSr.out]) HOr.out ?_)
        | fail)
      have hfin : Blk (wr.setRow z (r'.map u8).toArray) z 55 (r'.map u8).toArray := setRow_heap _ _ _ _ _ _ HB0.out
      refine bodyPost_ret (results_cell_one Try.results33 _ _ _ (b := z) (o := 0) (cs := r'.map u8) rfl (by have := hfin.range; simpa using this) Try.underlying55 rfl (by rw [sizeRow, HLr.out])) rfl ⟨r', rfl, HG.out, ?_⟩
      have h1 := HA.out
      have h2 := HZs.out
      exact ⟨h1.os, h1.tape, h1.output, by simpa using h1.size, fun j hj hn => (setRow_other _ _ _ _ (by omega)).trans (h1.block j hj hn), fun j hj => hj.elim⟩
end Go.Proofs.Ytekafclhddhnpaa
