/- AllocOnce. -/
import Derived.Test.YtekafclhddhnpaaAmN
import Derived.Test.YtekafclhddhnpaaAmL
import Derived.Deep.DeepCutAuto
namespace Go.Proofs.Ytekafclhddhnpaa
open Go.RowKit

/-- a row of answers in a block of its own -/
def Bo (w : World) (g : Nat) (T : List Bool) : Prop := Blk w g 4 (T.map Value.bool).toArray
section
variable {w : World} {g k : Nat} {T : List Bool}
theorem Bo.at_ (h : Bo w g T) (hk : k < T.length) : w.cell? ⟨g, k, none⟩ = some (.bool (T.getD k false)) ∧ w.frozen? ⟨g, k, none⟩ = false := by
  refine ⟨?_, Blk.frozen h k⟩
  rw [Blk.cell h, List.getElem?_toArray, List.getElem?_map, List.getElem?_eq_getElem hk, getD_at hk]; rfl
theorem Bo.put (h : Bo w g T) (k : Nat) (b : Bool) : Bo (w.setCell ⟨g, k, none⟩ (.bool b)) g (T.set k b) := by
  have := Blk.set_ h k (.bool b)
  unfold Bo
  rw [List.map_set]
  rw [List.setIfInBounds_toArray] at this
  exact this
end
theorem infoBool : (Try.prog.info? 4).map (fun i => (i.zero, i.size, i.bytes)) = some (some (.bool false), 1, 1) := by kernel_rfl
theorem madeCells_rep (n : Nat) : madeCells #[Value.bool false] (n * 1) = ((List.replicate n false).map Value.bool).toArray := by
  unfold madeCells
  apply Array.ext_getElem?
  intro k
  rw [Array.getElem?_map]
  by_cases h : k < n
  · rw [show (Array.range (n * 1))[k]? = some k from by rw [Array.getElem?_eq_getElem (by simpa using h)]; simp]
    simp [h, Nat.mod_one]
  · rw [Array.getElem?_eq_none (by simp; omega)]
    simp [h]
theorem made_bools (n : Nat) (hn : n ≤ 1024) (w : World) : (Instr.makeSlice 51 (.int .i64 (n : Int)) (.int .i64 (n : Int))).run Try.prog w = .ok (.slice (some ⟨w.heap.size, 0, none⟩) n n) (w.alloc (.cells ((List.replicate n false).map Value.bool).toArray 4)) := by
  obtain ⟨ie, hie, hz, hs, hb⟩ := info_parts infoBool
  have h := run_make (P := Try.prog) w 51 4 ie _ Try.underlying51 hie hz .i64 .i64 n n (by omega) (Int.le_refl _) (by rw [hb]; omega) (by omega)
  rw [hs] at h
  simp only [Value.cells, Int.toNat_natCast, madeCells_rep] at h
  exact h

/-- the program's map and the law's own row of answers, in step -/
structure On2 (w : World) (d g N : Nat) (T : List Bool) (wr : World) : Prop where
  map : Am wr d T
  row : Bo wr g T
  len : T.length = N
  ne : g ≠ d
  adv : Adv Nul w (fun k => k = d ∨ k = g) wr
theorem adv_two {w wr w' : World} {d g : Nat} (h : Adv Nul w (fun k => k = d ∨ k = g) wr) (a : Adv (One d) wr (One d) w') : Adv Nul w (fun k => k = d ∨ k = g) w' := h.trans (a.same (fun _ h => .inl h))
theorem On2.start {w w1 : World} {d N : Nat} (ha : Am w1 d (List.replicate N false)) (a : Adv Nul w (One d) w1) : On2 w d w1.heap.size N (List.replicate N false) (w1.alloc (.cells ((List.replicate N false).map Value.bool).toArray 4)) := by
  have hd := ha.lt
  refine ⟨ha.keep (Below.heap_alloc _ _ _ hd), Blk.new _ _ _, by simp, by omega, ?_⟩
  have h := a.alloc (.cells ((List.replicate N false).map Value.bool).toArray 4)
  refine ⟨h.os, h.tape, h.output, h.size, h.block, fun k hk => ?_⟩
  rcases hk with hk | hk
  · exact h.into k hk
  · exact .inr (by rw [hk]; exact a.size)
theorem On2.same {w wr w' : World} {d g N : Nat} {T : List Bool} (h : On2 w d g N T wr) (hm : Am w' d T) (a : Adv (One d) wr (One d) w') : On2 w d g N T w' :=
  ⟨hm, Blk.keep h.row (a.block g (Blk.lt h.row) (fun e => h.ne e)), h.len, h.ne, adv_two h.adv a⟩
theorem On2.put {w wr w' : World} {d g N k : Nat} {T : List Bool} (h : On2 w d g N T wr) (hm : Am w' d (T.set k true)) (a : Adv (One d) wr (One d) w') : On2 w d g N (T.set k true) (w'.setCell ⟨g, k, none⟩ (.bool true)) :=
  ⟨hm.keep (Below.heap_setCell _ _ _ _ h.ne.symm), Bo.put (Blk.keep h.row (a.block g (Blk.lt h.row) (fun e => h.ne e))) k true, by simpa using h.len, h.ne, (adv_two h.adv a).setCell (p := ⟨g, k, none⟩) (by
    rcases h.adv.into g (.inr rfl) with e | e
    · exact e.elim
    · exact .inr e) _⟩
theorem On2.drewN {w wr : World} {d g N : Nat} {T : List Bool} (h : On2 w d g N T wr) (n : Nat) : On2 w d g N T (wr.drewN n) := ⟨h.map, h.row, h.len, h.ne, h.adv.drewN n⟩
def On1 (w : World) (d g N m : Nat) (t : Value) (wr : World) : Prop := ∃ (i : Nat) (T : List Bool), t = .int .i64 (i : Int) ∧ i ≤ m ∧ i ≤ 50 ∧ On2 w d g N T wr
def On3 (w : World) (d g N z : Nat) (S : List Bool) (wr : World) : Prop := ∃ T, On2 w d g N T wr ∧ Am wr z S ∧ z ≠ d ∧ z ≠ g ∧ w.heap.size ≤ z
theorem On3.start {w wr w2 : World} {d g N z : Nat} {T : List Bool} (h : On2 w d g N T wr) (hm : Am w2 z T) (a : Adv Nul wr (One z) w2) : On3 w d g N z T w2 := by
  have hz : wr.heap.size ≤ z := by
    rcases a.into z rfl with e | e
    · exact e.elim
    · exact e
  have hd := h.map.lt
  have hg := Blk.lt h.row
  exact ⟨T, ⟨h.map.keep (a.block d hd (fun e => e)), Blk.keep h.row (a.block g hg (fun e => e)), h.len, h.ne, h.adv.trans (a.same (fun _ e => e.elim))⟩, hm, by omega, by omega, Nat.le_trans h.adv.size hz⟩
theorem On3.drewN {w wr : World} {d g N z : Nat} {S : List Bool} (h : On3 w d g N z S wr) (n : Nat) : On3 w d g N z S (wr.drewN n) := by
  obtain ⟨T, h1, h2, h3⟩ := h
  exact ⟨T, h1.drewN n, h2, h3⟩
def isF : Value → Bool
  | .bool false => true
  | _ => false
/-- how many of the law's own row are free -/
def left_ (g : Nat) (wr : World) : Nat := match wr.heap[g]? with
  | some (.cells cs _ _) => cs.toList.countP isF
  | _ => 0
theorem Bo.left {w : World} {g : Nat} {T : List Bool} (h : Bo w g T) : left_ g w = freeT T := by
  unfold left_
  rw [show w.heap[g]? = some (.cells (T.map Value.bool).toArray 4 (0, 0)) from h]
  show ((T.map Value.bool).toArray.toList).countP isF = _
  rw [List.toList_toArray, List.countP_map, freeT, List.count]
  refine List.countP_congr fun b _ => ?_
  cases b <;> decide
theorem On3.next {w wr w' : World} {d g N z k : Nat} {S T : List Bool} (h : On2 w d g N T wr) (hz : Am wr z S) (hzd : z ≠ d) (hzg : z ≠ g) (hwz : w.heap.size ≤ z) (hm : Am w' d (T.set k true)) (a : Adv (One d) wr (One d) w') (hl : freeT (T.set k true) < left_ g wr) :
    On3 w d g N z S (w'.setCell ⟨g, k, none⟩ (.bool true)) ∧ left_ g (w'.setCell ⟨g, k, none⟩ (.bool true)) < left_ g wr := by
  have hp := h.put hm a
  refine ⟨⟨_, hp, (hz.keep (a.block z hz.lt (fun e => hzd e))).keep (Below.heap_setCell _ _ _ _ hzg), hzd, hzg, hwz⟩, ?_⟩
  rw [hp.row.left]
  exact hl

/-- numbers that came in -/
structure Ints (w : World) (A : Option Addr) (c m : Nat) (zs : List Int) : Prop where
  rd : Rd w 1 (.slice A m c) m (zs.map (Value.int .i64))
  len : zs.length = m
  old : ∀ b, (Value.slice A m c).ownBlock = some b → 0 < m → b < w.heap.size
theorem Ints.at_ {w wr : World} {A : Option Addr} {c m i : Nat} {zs : List Int} {F : Nat → Prop} (h : Ints w A c m zs) (a : Adv Nul w F wr) (hi : i < m) : ∃ b o x, A = some ⟨b, o, none⟩ ∧ b < w.heap.size ∧ wr.cell? ⟨b, o + i, none⟩ = some (.int .i64 x) := by
  obtain ⟨b, o, rfl, hb, hc⟩ := h.rd.cells (by omega) (by decide)
  have hl := h.len
  refine ⟨b, o, zs[i]'(by omega), rfl, hb, ?_⟩
  rw [World.cell?_of_block (w := w) (a.block b hb (fun h => h)), hc i _ (by rw [List.getElem?_map, List.getElem?_eq_getElem (by omega)]; rfl)]

set_option maxRecDepth 3000 in
set_option maxHeartbeats 6400000 in
theorem aonce_walk (w : World) (n : Int) (_ : (Lit.int .i64 n).wf = true) (v : Value) (hv : ∃ (m : Nat) (zs : List Int), Rd w 1 v m (zs.map (Value.int .i64)) ∧ zs.length = m ∧ (∀ z ∈ zs, (Lit.int .i64 z).wf = true) ∧ (∀ b, v.ownBlock = some b → 0 < m → b < w.heap.size)) :
    Calls Try.prog 5 #[.int .i64 n, v] w fun e w' => e = .returned (.bool true) ∧ Below w.heap.size w w' := by
  obtain ⟨m, zs, hrd, hzl, hwf, hold⟩ := hv
  obtain ⟨A, c, rfl, hmc, hcm⟩ := hrd.form
  have HI := Lib.hid (show Ints w A c m zs from ⟨hrd, hzl, hold⟩)
  have hm63 : (m : Int) ≤ 9223372036854775807 := by unfold maxLen at hcm; omega
  have HM63 := Lib.hid hm63
  have HW := Lib.hid (within_any n 1 1024 w (by decide))
  clear hrd hold hzl hmc hcm hwf hm63
  go_enter Try.func5, Try.ntmps5
  go_wp2_with (first
    | (go_at_call 26; refine HW.out.mono ?_; rintro e w1 ⟨y, rfl, hy1, hy2, hy3, rfl⟩; clear hy3; obtain ⟨N, rfl⟩ : ∃ N : Nat, y = (N : Int) := ⟨y.toNat, (by omega)⟩; have h1 : 1 ≤ N := (by omega); have h2 : N ≤ 1024 := (by omega))
    | (go_at_call 7; refine (new_yes N h1 h2 w).mono ?_; rintro e w1 ⟨d, rfl, a1, b1⟩; have hs := On2.start a1 b1; obtain ⟨g, hg⟩ : ∃ g, g = w1.heap.size := ⟨_, rfl⟩; have hmk := fun w => made_bools N h2 w; obtain ⟨C, hC⟩ : ∃ C, C = ((List.replicate N false).map Value.bool).toArray := ⟨_, rfl⟩; rw [← hC] at hs hmk; rw [← hg] at hs; have HS := Lib.hid hs; have HG := Lib.hid hg; clear hC hs a1 b1 hg)
    | fail)
  rw [← HG.out]
  have H1 := Lib.hid h1
  have H2 := Lib.hid h2
  clear hmk h1 h2
  go_loopw [8] (On1 w d g N m) (fun t _ => 50 - (intOf t).toNat)
  case atStart => exact ⟨0, _, rfl, Nat.zero_le _, Nat.zero_le _, HS.out⟩
  case round =>
    clear hy1 hy2
    obtain ⟨i, T, rfl, him, hi5, ho⟩ := hrel
    have HO := Lib.hid ho
    clear ho
    go_upto_region 7 with (fail)
    obtain ⟨B, hB⟩ : ∃ B, B = decide (i < m ∧ i < 50) := ⟨_, rfl⟩
    have HB := Lib.hid hB
    clear hB
    go_cut [38] (fun t38 w9 => t38 = .bool B ∧ wr = w9)
    case first =>
      by_cases h1 : i < m
      · by_cases h2 : i < 50
        · have e : B = true := by rw [HB.out]; simp [h1, h2]
          have HE := Lib.hid e
          clear e
          go_wp2_with fail
          go_meet
          exact ⟨by rw [HE.out]; simp; omega, rfl⟩
        · have e : B = false := by rw [HB.out]; simp [h2]
          have h2' : 50 ≤ i := by omega
          have HE := Lib.hid e
          clear e h2
          go_wp2_with fail
          go_meet
          exact ⟨by rw [HE.out]; simp; omega, rfl⟩
      · have e : B = false := by rw [HB.out]; simp [h1]
        have h1' : m ≤ i := by omega
        have HE := Lib.hid e
        clear e h1
        go_wp2_with fail
        go_meet
        exact ⟨by rw [HE.out], rfl⟩
    case rest =>
    obtain ⟨rfl, rfl⟩ := hcut
    by_cases hb : i < m ∧ i < 50
    · have e : B = true := by rw [HB.out]; simp [hb]
      subst e
      clear HB
      obtain ⟨h1, h2⟩ := hb
      have hi64 : (i : Int) < 50 := by omega
      have him' : (i : Int) < (m : Int) := by omega
      obtain ⟨b, o, x, rfl, hbw, cx⟩ := HI.out.at_ HO.out.adv h1
      have HBW := Lib.hid hbw
      have HHo := Lib.hid (hold_am wr d T HO.out.map x)
      have HXX := Lib.hid (fun (w' : World) (a : Adv (One d) wr (One d) w') => (show w'.cell? ⟨b, o + i, none⟩ = some (.int .i64 x) from (World.cell?_of_block (w := wr) (a.block b (Nat.lt_of_lt_of_le hbw HO.out.adv.size) (fun e => by
        rcases HO.out.adv.into d (.inl rfl) with h | h
        · exact h
        · exact absurd hbw (by rw [e]; exact Nat.not_lt.2 h)))).trans cx))
      have HI63 := Lib.hid (show i + 1 ≤ 50 from h2)
      clear hbw h1 h2
      rcases hold_ways T x with ⟨e0, k, rfl, hk, hf, eT⟩ | ⟨e0, eT⟩
      · rw [e0, eT] at HHo
        have HK := Lib.hid hk
        have HF := Lib.hid hf
        have hkN : (k : Int) < (N : Int) := by have := HO.out.len; omega
        have hk0 : (0 : Int) ≤ (k : Int) := by omega
        clear e0 eT hk hf
        go_wp2_with (first
          | (go_at_call 11; refine HHo.out.mono ?_; rintro e w2 ⟨rfl, a2, b2⟩; have cx2 := HXX.out _ b2; have hrow := (Bo.at_ (Blk.keep HO.out.row (b2.block g (Blk.lt HO.out.row) (fun e => HO.out.ne e))) HK.out); rw [HF.out] at hrow; obtain ⟨cg, fg⟩ := hrow; have HP2 := Lib.hid (HO.out.put a2 b2); clear a2 b2)
          | fail)
        exact ⟨⟨i + 1, _, by simp, by omega, HI63.out, HP2.out⟩, by simp [intOf]; omega⟩
      · rw [eT] at HHo
        clear eT
        rcases e0 with e0 | e0
        · rw [e0] at HHo
          clear e0
          go_wp2_with (first
            | (go_at_call 11; refine HHo.out.mono ?_; rintro e w2 ⟨rfl, a2, b2⟩; have HP2 := Lib.hid (HO.out.same a2 b2); clear a2 b2)
            | fail)
          exact ⟨⟨i + 1, _, by simp, by omega, HI63.out, HP2.out⟩, by simp [intOf]; omega⟩
        · rw [e0] at HHo
          clear e0
          go_wp2_with (first
            | (go_at_call 11; refine HHo.out.mono ?_; rintro e w2 ⟨rfl, a2, b2⟩; have HP2 := Lib.hid (HO.out.same a2 b2); clear a2 b2)
            | fail)
          exact ⟨⟨i + 1, _, by simp, by omega, HI63.out, HP2.out⟩, by simp [intOf]; omega⟩
    · have e : B = false := by rw [HB.out]; exact decide_eq_false hb
      subst e
      clear HB hb him hi5
      have HFz := Lib.hid (fun w' z (h : Am w' z T) => free_am w' z T h)
      obtain ⟨f, hf⟩ : ∃ f, f = freeT T := ⟨_, rfl⟩
      rw [← hf] at HFz
      have HFe := Lib.hid hf
      clear hf
      go_wp2_with (first
        | (go_at_call 27; refine (copy_am wr d T HO.out.map).mono ?_; rintro e w2 ⟨z, rfl, a2, b2⟩; have hon := On3.start HO.out a2 b2; have HZ := Lib.hid a2; have HON := Lib.hid hon; clear a2 b2 hon)
        | (go_at_call 15; refine (HFz.out w2 z HZ.out).mono ?_; rintro e w3 ⟨rfl, n3, rfl⟩)
        | fail)
      go_loopw [11] (fun _ wr => On3 w d g N z T wr) (fun _ wr => left_ g wr)
      case atStart => exact HON.out.drewN n3
      case round =>
        obtain ⟨T', ho, hz, hzd, hzg, hwz⟩ := hrel
        have HO' := Lib.hid ho
        have HZ' := Lib.hid hz
        have HZD := Lib.hid hzd
        have HZG := Lib.hid hzg
        have HWZ := Lib.hid hwz
        have HF1 := Lib.hid (fun n => free_am (wr.drewN n) d T' (ho.map.drewN n))
        have HTk := Lib.hid (fun n => take_am (wr.drewN n) d T' (ho.map.drewN n))
        have HLf := Lib.hid ho.row.left
        have hT' := ho.len
        clear ho hz hzd hzg hwz
        by_cases hpos : 0 < freeT T'
        · obtain ⟨k, hk, hkf, eT, eI, eE, hcount⟩ := take_one hpos
          rw [eT, eI, eE] at HTk
          obtain ⟨f3, hf3⟩ : ∃ f3, f3 = freeT (T'.set k true) := ⟨_, rfl⟩
          rw [← hf3] at hcount
          obtain ⟨f9, hf9⟩ : ∃ f9, f9 = freeT T' := ⟨_, rfl⟩
          rw [← hf9] at HF1 HLf hcount
          have HF3 := Lib.hid (fun (w' : World) (h : Am w' d (T'.set k true)) => free_am w' d _ h)
          rw [← hf3] at HF3
          have hf1024 : (f9 : Int) ≤ 1024 := by
            have h1 := free_le T'
            have h2 := H2.out
            omega
          have hf90 : (0 : Int) < (f9 : Int) := by omega
          have hf91 : (f9 : Int) - 1 = (f3 : Int) := by omega
          have hkN : (k : Int) < (N : Int) := by omega
          have HK := Lib.hid hk
          have HKF := Lib.hid hkf
          have HF3e := Lib.hid hf3
          have HCo := Lib.hid hcount
          clear hpos hk hkf eT eI eE hcount hf3 hT' hf9
          go_wp2_with (first
            | (go_at_call 15; refine (HF3.out _ HA3.out).mono ?_; rintro e w5 ⟨rfl, n5, rfl⟩)
            | (go_at_call 15; refine (HF1.out 0).mono ?_; rintro e w5 ⟨rfl, n4, rfl⟩)
            | (go_at_call 15; refine (HF1.out n4).mono ?_; rintro e w5 ⟨rfl, n6, rfl⟩)
            | (go_at_call 9; refine (HTk.out _).mono ?_; rintro e w4 ⟨rfl, a4, b4⟩; have b4' := Adv.of_drewN b4; have hrow := (Bo.at_ (Blk.keep HO'.out.row (b4'.block g (Blk.lt HO'.out.row) (fun e => HO'.out.ne e))) HK.out); rw [HKF.out] at hrow; obtain ⟨cg, fg⟩ := hrow; have HA3 := Lib.hid a4; have HB3 := Lib.hid b4'; clear a4 b4 b4')
            | fail)
          exact On3.next HO'.out HZ'.out HZD.out HZG.out HWZ.out (HA3.out.drewN n5) (HB3.out.drewN n5) (by rw [HLf.out, ← HF3e.out]; have := HCo.out; omega)
        · have h0 : freeT T' = 0 := by omega
          obtain ⟨eT, eI, eE⟩ := take_no h0
          rw [eT, eI, eE] at HTk
          rw [h0] at HF1
          have HKp := Lib.hid (show ∀ n w', Adv (One d) (wr.drewN n) (One d) w' → Am w' z T from fun n w' a => HZ'.out.keep (a.block z HZ'.out.lt (fun e => HZD.out e)))
          have HB := Lib.hid (show ∀ n w', Adv (One d) (wr.drewN n) (One d) w' → ∀ j, Below w.heap.size w (w'.drewN j) from fun n w' a j => (((adv_two HO'.out.adv (Adv.of_drewN a)).drewN j).toBelow))
          clear hpos h0 eT eI eE hT'
          go_wp2_with (first
            | (go_at_call 15; refine (HFz.out _ z HA4.out).mono ?_; rintro e w5 ⟨rfl, n5, rfl⟩)
            | (go_at_call 15; refine (HF1.out 0).mono ?_; rintro e w5 ⟨rfl, n4, rfl⟩)
            | (go_at_call 9; refine (HTk.out _).mono ?_; rintro e w4 ⟨rfl, a4, b4⟩; have HA4 := Lib.hid (HKp.out _ _ b4); have HB4 := Lib.hid (HB.out _ _ b4); clear a4 b4)
            | (go_at_call 22; refine (alives_any _).mono ?_; rintro e w7 ⟨rfl, hb7⟩)
            | fail)
          go_ret
          exact ⟨rfl, (HB4.out n5).trans (hb7.mono (HB4.out n5).size)⟩
end Go.Proofs.Ytekafclhddhnpaa
