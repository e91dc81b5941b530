/- ClockSpares. -/
import Derived.Test.YtmefpafjcafgnaaDoorCkF
import Derived.Test.YtmefpafjcafgnaaDoorCkO
import Derived.Test.YtmefpafjcafgnaaDoorBo
import Derived.Deep.DeepCutAuto
import Derived.Deep.RegionHeld3
import Derived.Deep.LoopGhost
namespace Go.Proofs.YtmefpafjcafgnaaDoor
open Go.ChangeShapes Go.WideShapes Go.ChangeAt Go.RowKit

/-! Whether a number is in a list. -/
set_option maxRecDepth 3000 in
theorem kin_any (v : Value) (L : List Nat) (k : Nat) (w : World) (h : Rd w 1 v L.length (ints L)) : Calls Tryd.prog 19 #[v, .int .i64 (k : Int)] w fun e w' => e = .returned (.bool (decide (k ∈ L))) ∧ w = w' := by
  obtain ⟨A, c, rfl, hlc, hcm⟩ := h.form
  have hl63 : (L.length : Int) ≤ 9223372036854775807 := by unfold maxLen at hcm; omega
  have H := Lib.hid h
  obtain ⟨n, hn⟩ : ∃ n, n = L.length := ⟨_, rfl⟩
  rw [← hn] at hl63 ⊢
  have HN := Lib.hid hn
  clear h hn hlc hcm
  go_enter Tryd.func19, Tryd.ntmps19
  go_wp2_with fail
  go_loopw [5] (fun t wr => ∃ j : Nat, t = .int .i64 ((j : Nat) : Int) ∧ j ≤ n ∧ (∀ i, i < j → L[i]? ≠ some k) ∧ w = wr) (fun t _ => n - (intOf t).toNat)
  case atStart => exact ⟨0, rfl, Nat.zero_le _, fun i hi => absurd hi (Nat.not_lt_zero i), rfl⟩
  case round =>
    obtain ⟨j, rfl, hj, hno, rfl⟩ := hrel
    have HNO := Lib.hid hno
    by_cases hlt : j < n
    · have hjl : j < L.length := by rw [← HN.out]; exact hlt
      obtain ⟨b, o, rfl, _, g1⟩ := H.out.cells (by omega) (by decide)
      have c1 : w.cell? ⟨b, o + j, none⟩ = some (.int .i64 (L[j] : Int)) := g1 j _ (by unfold ints; rw [List.getElem?_map, List.getElem?_eq_getElem hjl]; rfl)
      have hx : L[j]? = some L[j] := List.getElem?_eq_getElem hjl
      generalize L[j] = x at c1 hx
      have HXX := Lib.hid hx
      have HLT := Lib.hid hlt
      clear hno g1 hx hjl hj
      by_cases e : x = k
      · subst e
        have hm : x ∈ L := List.mem_of_getElem? HXX.out
        have HM := Lib.hid hm
        clear hm
        go_wp2_with fail
        go_ret
        exact ⟨by rw [decide_eq_true HM.out]; rfl, rfl⟩
      · have e' : ((x : Int) == (k : Int)) = false := by rw [beq_eq_false_iff_ne]; omega
        have HE := Lib.hid e
        clear e
        go_wp2_with fail
        refine ⟨⟨j + 1, by simp, HLT.out, fun i hi => ?_, by first | rfl | trivial⟩, by have := HLT.out; simp [intOf]; omega⟩
        by_cases q : i = j
        · rw [q, HXX.out]
          exact fun z => HE.out (Option.some.inj z)
        · exact HNO.out i (by omega)
    · obtain rfl : n = j := by omega
      have hm : ¬ k ∈ L := fun hm => by
        obtain ⟨i, hi⟩ := List.mem_iff_getElem?.1 hm
        have : i < L.length := by
          rcases Nat.lt_or_ge i L.length with q | q
          · exact q
          · rw [List.getElem?_eq_none q] at hi; cases hi
        exact hno i (by rw [HN.out]; exact this) hi
      have HM := Lib.hid hm
      clear hno hm hlt hj
      go_wp2_with fail
      go_ret
      exact ⟨by rw [decide_eq_false HM.out]; rfl, rfl⟩

/-! What the law keeps of marks. -/
def mkL (s : CS) : List Bool := (List.range s.n).map (fun i => s.m.testBit i)
set_option maxRecDepth 3000 in
theorem mkL_len (s : CS) : (mkL s).length = s.n := by simp [mkL]
set_option maxRecDepth 3000 in
theorem mkL_at {s : CS} {i : Nat} (h : i < s.n) : (mkL s).getD i false = s.m.testBit i := by
  unfold mkL
  rw [List.getD_eq_getElem?_getD, List.getElem?_map, List.getElem?_range h]; rfl
set_option maxRecDepth 3000 in
theorem mkL_set {s t : CS} {i : Nat} {b : Bool} (hn : t.n = s.n) (h : ∀ j, t.m.testBit j = if j = i then b else s.m.testBit j) (hi : i < s.n) : (mkL s).set i b = mkL t := by
  apply List.ext_getElem?
  intro j
  rw [List.getElem?_set]
  unfold mkL
  rw [List.length_map, List.length_range, hn]
  by_cases e : i = j
  · subst e
    rw [if_pos rfl, if_pos hi, List.getElem?_map, List.getElem?_range hi]
    show _ = some (t.m.testBit i)
    rw [h, if_pos rfl]
  · rw [if_neg e, List.getElem?_map, List.getElem?_map]
    rcases Nat.lt_or_ge j s.n with q | q
    · rw [List.getElem?_range q]
      show some (s.m.testBit j) = some (t.m.testBit j)
      rw [h, if_neg (Ne.symm e)]
    · rw [List.getElem?_eq_none (by simpa using q)]; rfl
set_option maxRecDepth 3000 in
theorem do_vals (k : Int) (s : CS) (i : Int) : doE k s i = 0 ∨ doE k s i = 2 ∨ doE k s i = 11 := by
  unfold doE
  split
  · split
    · exact .inr (.inr rfl)
    · exact .inl rfl
  · exact .inr (.inl rfl)
set_option maxRecDepth 3000 in
/-- a call that says so has marked, or has unmarked -/
theorem do_marks {k : Int} {s : CS} {i : Int} (h : COk s) (hk : 0 ≤ k) (h3 : k < 3) (e : doE k s i = 0) : hereC s i ∧ (mkL s).set i.toNat (k != 1) = mkL (doC k s i) := by
  unfold doE at e
  split at e
  · rename_i hh
    refine ⟨hh, ?_⟩
    obtain ⟨j, rfl, hj⟩ := hereC_nat hh
    rw [Int.toNat_natCast] at e ⊢
    have hj64 : j < 64 := Nat.lt_of_lt_of_le hj h.hi
    unfold doC
    rw [if_pos hh, Int.toNat_natCast]
    have hc : k = 0 ∨ k = 1 ∨ k = 2 := by omega
    rcases hc with rfl | rfl | rfl
    · exact mkL_set rfl (fun q => by show (pput s.m j).testBit q = _; rw [pput_bit]; by_cases z : q = j <;> simp [z]) hj
    · exact mkL_set rfl (fun q => by show (ddrop s.m j).testBit q = _; rw [ddrop_bit h.m64 hj64]; by_cases z : q = j <;> simp [z]) hj
    · have hu : s.u.testBit j = true := by
        cases z : s.u.testBit j
        · rw [z, if_pos ⟨.inl rfl, rfl⟩] at e; cases e
        · rfl
      have : doS 2 s j = { s with m := pput s.m j } := by unfold doS; rw [if_neg (by decide), if_neg (by decide), if_pos rfl, if_pos hu]
      rw [this]
      exact mkL_set rfl (fun q => by show (pput s.m j).testBit q = _; rw [pput_bit]; by_cases z : q = j <;> simp [z]) hj
  · cases e
set_option maxRecDepth 3000 in
theorem do_keeps {k : Int} {s : CS} {i : Int} (h : doE k s i ≠ 0 ∨ 3 ≤ k) : mkL (doC k s i) = mkL s ∧ (doC k s i).n = s.n := by
  unfold doE at h
  unfold doC
  split
  · rename_i hh
    rw [if_pos hh] at h
    unfold doS
    by_cases h0 : k = 0
    · subst h0; rcases h with h | h
      · exact (h (if_neg (by rintro ⟨q | q, _⟩ <;> cases q))).elim
      · cases h
    by_cases h1 : k = 1
    · subst h1; rcases h with h | h
      · exact (h (if_neg (by rintro ⟨q | q, _⟩ <;> cases q))).elim
      · cases h
    rw [if_neg h0, if_neg h1]
    by_cases h2 : k = 2
    · subst h2
      rw [if_pos rfl]
      rcases h with h | h
      · cases z : s.u.testBit i.toNat
        · exact ⟨rfl, rfl⟩
        · exact (h (if_neg (by rw [z]; rintro ⟨_, q⟩; cases q))).elim
      · cases h
    rw [if_neg h2]
    split
    · split <;> exact ⟨rfl, rfl⟩
    · exact ⟨rfl, rfl⟩
  · exact ⟨rfl, rfl⟩
set_option maxRecDepth 3000 in
theorem doC_n (k : Int) (s : CS) (i : Int) : (doC k s i).n = s.n := by
  unfold doC doS
  split
  · split
    · rfl
    split
    · rfl
    split
    · split <;> rfl
    split
    · split <;> rfl
    · rfl
  · rfl

/-- the ring, and the law's row of marks M -/
structure Sp (w : World) (d z : Nat) (s : CS) (M : List Bool) (wr : World) : Prop where
  cl : Cl wr d s
  bo : Bo wr z M
  adv : Adv Nul w (Two2 d z) wr
  tz : Tz wr
  ne : d ≠ z
section
variable {w wr w' : World} {d z : Nat} {s t : CS} {M : List Bool} {F : Nat → Prop}
set_option maxRecDepth 3000 in
theorem two_no (hw : 0 < w.heap.size) (a : Adv Nul w (Two2 d z) wr) : ¬ Two2 d z 0 := fun e => by
  rcases a.into 0 e with h | h
  · exact h
  · omega
set_option maxRecDepth 3000 in
theorem Sp.drewN (h : Sp w d z s M wr) (n : Nat) : Sp w d z s M (wr.drewN n) := ⟨h.cl.drewN n, h.bo, h.adv.drewN n, h.tz, h.ne⟩
set_option maxRecDepth 3000 in
theorem Sp.drew (h : Sp w d z s M wr) : Sp w d z s M wr.drew := h.drewN 1
set_option maxRecDepth 3000 in
theorem Sp.next (h : Sp w d z s M wr) (hm : Cl w' d t) (a : Adv (One d) wr (One d) w') (hw : 0 < w.heap.size) : Sp w d z t M w' :=
  ⟨hm, Blk.keep h.bo (a.block z (Blk.lt h.bo) (fun e => h.ne e.symm)), h.adv.trans (a.same (fun _ e => .inl e)), h.tz.far a (fun e => two_no hw h.adv (.inl e)), h.ne⟩
set_option maxRecDepth 3000 in
theorem Sp.still (h : Sp w d z s M wr) (a : Adv Nul wr F w') : Sp w d z s M w' :=
  ⟨h.cl.far a (fun e => e), Blk.keep h.bo (a.block z (Blk.lt h.bo) (fun e => e)), h.adv.trans (a.same (fun _ e => e.elim)), tz_new h.tz a, h.ne⟩
set_option maxRecDepth 3000 in
theorem Sp.put (h : Sp w d z s M wr) (k : Nat) (b : Bool) (n : Nat) (hw : 0 < w.heap.size) : Sp w d z s (M.set k b) ((wr.drewN n).setCell ⟨z, k, none⟩ (.bool b)) := by
  have ha : Adv (One z) wr (One z) ((wr.drewN n).setCell ⟨z, k, none⟩ (.bool b)) := adv_set wr z k n _
  exact ⟨h.cl.far ha (fun e => h.ne e), (show Bo (wr.drewN n) z M from h.bo).put k b, h.adv.trans (ha.same (fun _ e => .inr e)), h.tz.far ha (fun e => two_no hw h.adv (.inr e)), h.ne⟩
set_option maxRecDepth 3000 in
theorem Sp.start {w1 : World} {n : Nat} (hT : Tz w) (h1 : Cl w1 d (cNew n)) (a1 : Adv Nul w (One d) w1) : Sp w d w1.heap.size (cNew n) (mkL (cNew n)) (w1.alloc (.cells ((List.replicate n false).map Value.bool).toArray 4)) := by
  have hl := h1.lt
  have e : List.replicate n false = mkL (cNew n) := by
    unfold mkL
    symm
    rw [List.eq_replicate_iff]
    exact ⟨by simp [cNew], fun b hb => by obtain ⟨i, _, rfl⟩ := List.mem_map.1 hb; exact Nat.zero_testBit i⟩
  rw [e]
  have h := a1.alloc (.cells ((mkL (cNew n)).map Value.bool).toArray 4)
  have ha : Adv Nul w (Two2 d w1.heap.size) (w1.alloc (.cells ((mkL (cNew n)).map Value.bool).toArray 4)) := ⟨h.os, h.tape, h.output, h.size, h.block, fun k hk => by
    rcases hk with e | e
    · exact a1.into k e
    · exact .inr (by rw [e]; exact a1.size)⟩
  exact ⟨h1.keep (Below.heap_alloc _ _ _ hl), Blk.new _ _ _, ha, tz_new hT ha, by omega⟩
set_option maxRecDepth 3000 in
theorem Sp.at_ (h : Sp w d z s M wr) {k : Nat} (hk : k < M.length) : wr.cell? ⟨z, k, none⟩ = some (.bool (M.getD k false)) ∧ wr.frozen? ⟨z, k, none⟩ = false := Bo.at_ h.bo hk
end
def SpL (w : World) (d z N m : Nat) (t8 : Value) (wr : World) : Prop := ∃ (i : Nat) (s : CS), t8 = .int .i64 (i : Int) ∧ i ≤ m ∧ i ≤ 60 ∧ s.n = N ∧ Sp w d z s (mkL s) wr
def SpM (w : World) (d z N i : Nat) (t8 : Value) (wr : World) : Prop := ∃ s : CS, t8 = .int .i64 (i : Int) ∧ s.n = N ∧ Sp w d z s (mkL s) wr
set_option maxRecDepth 3000 in
theorem len_all {x n : Nat} (hx : x < 2 ^ n) (hn : n ≤ 64) (h : ∀ i, i < n → x.testBit i = true) : (bitsL x).length = n := by
  rw [bitsL_of hx hn, List.filter_eq_self.2 (fun i hi => h i (by simpa using hi)), List.length_range]
set_option maxRecDepth 3000 in
theorem len_less {x n i : Nat} (hx : x < 2 ^ n) (hn : n ≤ 64) (hi : i < n) (h : x.testBit i = false) : (bitsL x).length < n := by
  rw [bitsL_of hx hn]
  have h1 : ((List.range n).filter (fun j => x.testBit j)).length ≤ n := by
    have := List.length_filter_le (fun j => x.testBit j) (List.range n)
    rwa [List.length_range] at this
  rcases Nat.lt_or_eq_of_le h1 with q | q
  · exact q
  · have := (List.length_filter_eq_length_iff (l := List.range n) (p := fun j => x.testBit j)).1 (by rw [q, List.length_range]) i (by simpa using hi)
    rw [h] at this; cases this
/-- how many are neither marked nor pinned, so far -/
def PlR (w : World) (s : CS) (n g : Nat) (t13 t14 : Value) (wr : World) : Prop := ∃ p j : Nat, t13 = .int .i64 (p : Int) ∧ t14 = .int .i64 (j : Int) ∧ j + g = n ∧ p ≤ j ∧ (0 < p → ∃ q, q < s.n ∧ s.m.testBit q = false ∧ s.p.testBit q = false) ∧ w = wr
set_option maxRecDepth 3000 in
theorem next_good {s : CS} (h : COk s) : (nextS s = ⟨-1, 8, s⟩ ∧ (bitsL s.p).length = s.n) ∨ ∃ (k : Nat) (t : CS), nextS s = ⟨(k : Int), 0, t⟩ ∧ k < s.n ∧ s.p.testBit k = false ∧
    (((bitsL s.u).length < s.n ∧ s.u.testBit k = false) ∨ ((bitsL s.u).length = s.n ∧ ∀ q, q < s.n → s.m.testBit q = false → s.p.testBit q = false → s.m.testBit k = false)) := by
  by_cases h0 : freeN s = 0
  · by_cases hp : s.p = 2 ^ s.n - 1
    · exact .inl ⟨next_all (all_used h h0) hp, len_all h.p h.hi ((every_iff h.p).1 hp)⟩
    · obtain ⟨i, t, e, e2⟩ := next_turn h (all_used h h0) hp
      obtain ⟨k1, k2, _⟩ := turn_keep _ _ _ _ h e
      exact .inr ⟨i, t, e2, k1, k2, .inr ⟨len_all h.u h.hi (all_used h h0), fun q hq hm hpq => (turn_near _ _ _ _ _ _ h hq rfl hpq hm e).1⟩⟩
  · obtain ⟨e, hk⟩ := next_free h h0
    have hu : s.u.testBit (Lib.ctz 64 (freeN s)) = false := by
      have := (ctz_bit h0 (freeN_lt s h)).1
      rw [freeN_bit h, decide_eq_true hk] at this
      simpa using this
    refine .inr ⟨_, s, e, hk, ?_, .inl ⟨len_less h.u h.hi hk hu, hu⟩⟩
    cases z : s.p.testBit (Lib.ctz 64 (freeN s))
    · rfl
    · rw [h.sub _ z] at hu; cases hu
set_option maxRecDepth 3000 in
theorem nxt_lists {w wr w3 w4 w5 : World} {d z n3 n4 : Nat} {s : CS} {M : List Bool} {F3 F4 : Nat → Prop} {v3 v4 : Value} {xs3 xs4 : List Value} (h : Sp w d z s M wr) (a3 : Sl w3 F3 3 1 v3 n3 xs3) (b3 : Adv Nul wr F3 w3) (a4 : Sl w4 F4 3 1 v4 n4 xs4) (b4 : Adv Nul w3 F4 w4) (b5 : Adv (One d) w4 (One d) w5) :
    Rd w5 1 v3 n3 xs3 ∧ Rd w5 1 v4 n4 xs4 := by
  have hd := h.cl.lt
  have s3 := b3.size
  refine ⟨((a3.far b4 (fun _ e _ => e)).far b5 (fun k e1 e2 => ?_)).rd, (a4.far b5 (fun k e1 e2 => ?_)).rd⟩
  · rw [show k = d from e1] at e2
    rcases b3.into d e2 with q | q
    · exact q
    · omega
  · rw [show k = d from e1] at e2
    rcases b4.into d e2 with q | q
    · exact q
    · omega
set_option maxRecDepth 3000 in
set_option maxHeartbeats 12800000 in
theorem cspares_walk (w : World) (hT : Tz w) (n : Int) (_ : (Lit.int .i64 n).wf = true) (v : Value) (hv : PrsIn w v) :
    Calls Tryd.prog 4 #[.int .i64 n, v] w fun e w' => e = .returned (.bool true) ∧ Below w.heap.size w w' := by
  obtain ⟨A, c, m, ds, rfl, hp⟩ := hv
  have HP0 := Lib.hid hp
  have hm63 : (m : Int) ≤ 9223372036854775807 := by have := hp.cap; unfold maxLen at this; omega
  have HM63 := Lib.hid hm63
  have HT := Lib.hid hT
  have HW0 := Lib.hid hT.lt
  have HWn := Lib.hid (within_any n 1 64 w (by decide))
  clear hp hT
  go_enter Tryd.func4, Tryd.ntmps4
  go_wp2_with (first
    | (go_at_call 18; refine HWn.out.mono ?_; rintro e w1 ⟨y, rfl, hy1, hy2, hy3, rfl⟩; clear hy3; obtain ⟨N, rfl⟩ : ∃ N : Nat, y = (N : Int) := ⟨y.toNat, (by omega)⟩; have h1 : 1 ≤ N := (by omega); have h2 : N ≤ 64 := (by omega))
    | (go_at_call 6; refine (cnew_yes N h1 h2 w).mono ?_; rintro e w1 ⟨d, rfl, a1, b1⟩; have hs := Sp.start HT.out a1 b1; obtain ⟨z, hz⟩ : ∃ z, z = w1.heap.size := ⟨_, rfl⟩; have hmk := fun w => made_bools N (Nat.le_trans h2 (by decide)) w; obtain ⟨C, hC⟩ : ∃ C, C = ((List.replicate N false).map Value.bool).toArray := ⟨_, rfl⟩; rw [← hC] at hs hmk; rw [← hz] at hs; have HS := Lib.hid hs; have HG := Lib.hid hz; clear hC hs a1 b1 hz)
    | fail)
  rw [← HG.out]
  have H1 := Lib.hid h1
  have H2 := Lib.hid h2
  clear hmk h1 h2 hy1 hy2
  go_loopw [8] (SpL w d z N m) (fun t _ => 60 - (intOf t).toNat)
  case atStart => exact ⟨0, _, rfl, Nat.zero_le _, Nat.zero_le _, rfl, HS.out⟩
  case round =>
    obtain ⟨i, s, rfl, him, hi6, hsn, hx⟩ := hrel
    have HX := Lib.hid hx
    have HSN := Lib.hid hsn
    clear hx hsn
    go_upto_region 7 with (fail)
    obtain ⟨B, hB⟩ : ∃ B, B = decide (i < m ∧ i < 60) := ⟨_, rfl⟩
    have HB := Lib.hid hB
    clear hB
    go_cut [37] (fun t37 w9 => t37 = .bool B ∧ wr = w9)
    case first =>
      by_cases h1 : i < m
      · by_cases h2 : i < 60
        · have e : B = true := by rw [HB.out]; simp [h1, h2]
          have HE := Lib.hid e
          clear e
          go_wp2_with fail
          go_meet
          exact ⟨by first | (rw [HE.out]; done) | (rw [HE.out]; simp; omega), rfl⟩
        · have e : B = false := by rw [HB.out]; simp [h2]
          have h2' : 60 ≤ i := by omega
          have HE := Lib.hid e
          clear e h2
          go_wp2_with fail
          go_meet
          exact ⟨by first | (rw [HE.out]; done) | (rw [HE.out]; simp; omega), rfl⟩
      · have e : B = false := by rw [HB.out]; simp [h1]
        have h1' : m ≤ i := by omega
        have HE := Lib.hid e
        clear e h1
        go_wp2_with fail
        go_meet
        exact ⟨by rw [HE.out], rfl⟩
    case rest =>
    obtain ⟨rfl, rfl⟩ := hcut
    by_cases hb : i < m ∧ i < 60
    · have e : B = true := by rw [HB.out]; simp [hb]
      subst e
      clear HB
      obtain ⟨h1, h2⟩ := hb
      have hi60 : (i : Int) < 60 := by omega
      have him' : (i : Int) < (m : Int) := by omega
      obtain ⟨b, o, xk, y, rfl, hkp⟩ := HP0.out.both h1
      obtain ⟨c0, c1⟩ := hkp _ _ HX.out.adv
      have HKP := Lib.hid hkp
      have HI6 := Lib.hid (show i + 1 ≤ 60 from h2)
      have HIM := Lib.hid (show i + 1 ≤ m from h1)
      clear h1 h2 hkp him hi6
      go_upto_region 9 with (fail)
      obtain ⟨C, hC⟩ : ∃ C, C = decide (0 ≤ xk ∧ xk < 5) := ⟨_, rfl⟩
      have HC := Lib.hid hC
      clear hC
      go_cut [53] (fun t53 w9 => t53 = .bool C ∧ wr = w9)
      case first =>
        by_cases h1 : 0 ≤ xk
        · by_cases h2 : xk < 5
          · have e : C = true := by rw [HC.out]; simp [h1, h2]
            have HE := Lib.hid e
            clear e
            go_wp2_with fail
            go_meet
            exact ⟨by first | (rw [HE.out]; done) | (rw [HE.out]; simp; omega), rfl⟩
          · have e : C = false := by rw [HC.out]; simp [h2]
            have h2' : 5 ≤ xk := by omega
            have HE := Lib.hid e
            clear e h2
            go_wp2_with fail
            go_meet
            exact ⟨by first | (rw [HE.out]; done) | (rw [HE.out]; simp; omega), rfl⟩
        · have e : C = false := by rw [HC.out]; simp [h1]
          have h1' : xk < 0 := by omega
          have HE := Lib.hid e
          clear e h1
          go_wp2_with fail
          go_meet
          exact ⟨by rw [HE.out], rfl⟩
      case rest =>
      obtain ⟨rfl, rfl⟩ := hcut
      rename_i Kx hKx
      refine hKx _ _ ?_
      have K0 := Lib.hid (HKP.out _ _ HX.out.drew.adv)
      by_cases hcc : 0 ≤ xk ∧ xk < 5
      · have eC : C = true := by rw [HC.out]; simp [hcc]
        subst eC
        clear HC
        have HW1 := Lib.hid (fun w' (h : Sp w d z s (mkL s) w') => cdoes_any w' d s h.cl xk y)
        have HTN := Lib.hid ((doC_n xk s y).trans HSN.out)
        by_cases hE : doE xk s y = 0
        · by_cases hk3 : xk < 3
          · as_aux_lemma =>
            obtain ⟨hh, hmk⟩ := do_marks HX.out.cl.ok hcc.1 hk3 hE
            obtain ⟨j, rfl, hj⟩ := hereC_nat hh
            rw [hE] at HW1
            rw [Int.toNat_natCast] at hmk
            generalize doC xk s (j : Int) = t at HW1 hmk HTN
            have HMK := Lib.hid hmk
            have hjN : j < N := by rw [← HSN.out]; exact hj
            have hjN' : (j : Int) < (N : Int) := by omega
            have hN1 : (1 : Int) ≤ (N : Int) := by have := H1.out; omega
            have hN2 : (N : Int) ≤ 64 := by have := H2.out; omega
            have HWI := Lib.hid (show ∀ w', Calls Tryd.prog 18 #[.int .i64 (j : Int), .int .i64 0, .int .i64 ((N : Int) - 1)] w' fun e w'' => e = .returned (.int .i64 (j : Int)) ∧ w' = w'' from fun w' => by
              refine (within_any (j : Int) 0 ((N : Int) - 1) w' (by omega)).mono ?_
              rintro e w'' ⟨q, rfl, q1, q2, q3, rfl⟩
              rw [q3 (by omega) (by omega)]
              exact ⟨rfl, rfl⟩)
            have HWR := Lib.hid (show IntKind.i64.wrap ((N : Int) - 1) = (N : Int) - 1 by rw [IntKind.wrap_i64]; omega)
            have HJL := Lib.hid (show j < (mkL s).length by rw [mkL_len]; exact hj)
            clear hh hmk hj hE hcc c0 c1 hjN
            go_upto_region 10 with (fail)
            refine rstart (S := (fun w' => w'.cell? ⟨b, o + i * 2, none⟩ = some (.int .i64 xk) ∧ w'.cell? ⟨b, o + i * 2 + 1, none⟩ = some (.int .i64 (j : Int)))) (by first | with_reducible exact KA.out | with_reducible exact K0.out) (fun hH => ?_)
            refine tk (i := 0) (oi := ⟨some 54, .move (.tmp 5), 23, "law.go:77", #[], none⟩) hH.out (by rintro w ⟨s0, s1⟩; go_simp <;> with_reducible rfl) ?_
            simp only [Act.put, sA, sB, sC]
            refine tk (i := 1) (oi := ⟨some 55, .move (.tmp 1), 22, "law.go:77", #[], none⟩) hH.out (by rintro w ⟨s0, s1⟩; go_simp <;> with_reducible rfl) ?_
            simp only [Act.put, sA, sB, sC]
            refine tk (i := 2) (oi := ⟨some 56, .move (.tmp 8), 3, "law.go:77", #[], none⟩) hH.out (by rintro w ⟨s0, s1⟩; go_simp <;> with_reducible rfl) ?_
            simp only [Act.put, sA, sB, sC]
            refine tk (i := 3) (oi := ⟨some 57, .indexAddr 22 (.tmp 55) (.tmp 56), 0, "law.go:77", #[⟨1, .data⟩, ⟨2, .data⟩], none⟩) hH.out (by rintro w ⟨s0, s1⟩; go_simp <;> with_reducible rfl) ?_
            simp only [Act.put, sA, sB, sC]
            refine tk (i := 4) (oi := ⟨some 58, .fieldAddr 31 (.tmp 57) 0, 0, "law.go:77", #[⟨3, .data⟩], none⟩) hH.out (by rintro w ⟨s0, s1⟩; go_simp <;> with_reducible rfl) ?_
            simp only [Act.put, sA, sB, sC]
            refine tk (i := 5) (oi := ⟨some 59, .load 3 (.tmp 58), 3, "law.go:77", #[⟨4, .data⟩], none⟩) hH.out (by rintro w ⟨s0, s1⟩; go_simp <;> with_reducible rfl) ?_
            simp only [Act.put, sA, sB, sC]
            refine tk (i := 6) (oi := ⟨some 60, .move (.tmp 1), 22, "law.go:77", #[], none⟩) hH.out (by rintro w ⟨s0, s1⟩; go_simp <;> with_reducible rfl) ?_
            simp only [Act.put, sA, sB, sC]
            refine tk (i := 7) (oi := ⟨some 61, .move (.tmp 8), 3, "law.go:77", #[], none⟩) hH.out (by rintro w ⟨s0, s1⟩; go_simp <;> with_reducible rfl) ?_
            simp only [Act.put, sA, sB, sC]
            refine tk (i := 8) (oi := ⟨some 62, .indexAddr 22 (.tmp 60) (.tmp 61), 0, "law.go:77", #[⟨6, .data⟩, ⟨7, .data⟩], none⟩) hH.out (by rintro w ⟨s0, s1⟩; go_simp <;> with_reducible rfl) ?_
            simp only [Act.put, sA, sB, sC]
            refine tk (i := 9) (oi := ⟨some 63, .fieldAddr 31 (.tmp 62) 1, 0, "law.go:77", #[⟨8, .data⟩], none⟩) hH.out (by rintro w ⟨s0, s1⟩; go_simp <;> with_reducible rfl) ?_
            simp only [Act.put, sA, sB, sC]
            refine tk (i := 10) (oi := ⟨some 64, .load 3 (.tmp 63), 3, "law.go:77", #[⟨9, .data⟩], none⟩) hH.out (by rintro w ⟨s0, s1⟩; go_simp <;> with_reducible rfl) ?_
            simp only [Act.put, sA, sB, sC]
            refine rdy (i := 11) (oi := ⟨some 65, .call ⟨.value (.func 8), #[.tmp 54, .tmp 59, .tmp 64], #[23, 3, 3]⟩, 24, "law.go:77", #[⟨0, .data⟩, ⟨5, .data⟩, ⟨10, .data⟩], none⟩) (fun K hK => ?_)
            go_simp
            refine (HW1.out _ HX.out.drew).mono ?_
            rintro e w4 ⟨rfl, a4, b4⟩
            have HM4 := Lib.hid (HX.out.drew.next a4 b4 HW0.out)
            have KA := Lib.hid (HKP.out _ _ HM4.out.adv)
            clear a4 b4
            go_wp2_with fail
            refine hK.out _ _ (by first | with_reducible exact KA.out | with_reducible exact K0.out) (fun hHeld => ?_)
            replace hH := Lib.hid hHeld
            clear hK K hHeld
            try simp only [Act.put, sA, sB, sC]
            refine tk (i := 12) (oi := ⟨some 66, .binOp .eql 24 (.tmp 65) (.const (Go.Value.int Go.IntKind.i64 0)) 24, 4, "law.go:77", #[⟨11, .data⟩], none⟩) hH.out (by rintro w ⟨s0, s1⟩; go_simp <;> with_reducible rfl) ?_
            simp only [Act.put, sA, sB, sC]
            refine tk (i := 13) (oi := ⟨some 67, .move (.tmp 66), 4, "law.go:77", #[⟨12, .data⟩, ⟨11, .chain⟩], none⟩) hH.out (by rintro w ⟨s0, s1⟩; go_simp <;> with_reducible rfl) ?_
            simp only [Act.put, sA, sB, sC]
            refine tk (i := 14) (oi := { dst := some 68, op := .move (.tmp 1), type := 22, pos := "law.go:77", after := #[⟨13, .guard⟩], guard := some (13, true) }) hH.out (by rintro w ⟨s0, s1⟩; go_simp <;> with_reducible rfl) ?_
            simp only [Act.put, sA, sB, sC]
            refine tk (i := 15) (oi := { dst := some 69, op := .move (.tmp 8), type := 3, pos := "law.go:77", after := #[⟨13, .guard⟩], guard := some (13, true) }) hH.out (by rintro w ⟨s0, s1⟩; go_simp <;> with_reducible rfl) ?_
            simp only [Act.put, sA, sB, sC]
            refine tk (i := 16) (oi := { dst := some 70, op := .indexAddr 22 (.tmp 68) (.tmp 69), type := 0, pos := "law.go:77", after := #[⟨14, .data⟩, ⟨15, .data⟩, ⟨13, .guard⟩], guard := some (13, true) }) hH.out (by rintro w ⟨s0, s1⟩; go_simp <;> with_reducible rfl) ?_
            simp only [Act.put, sA, sB, sC]
            refine tk (i := 17) (oi := { dst := some 71, op := .fieldAddr 31 (.tmp 70) 0, type := 0, pos := "law.go:77", after := #[⟨16, .data⟩, ⟨13, .guard⟩], guard := some (13, true) }) hH.out (by rintro w ⟨s0, s1⟩; go_simp <;> with_reducible rfl) ?_
            simp only [Act.put, sA, sB, sC]
            refine tk (i := 18) (oi := { dst := some 72, op := .load 3 (.tmp 71), type := 3, pos := "law.go:77", after := #[⟨17, .data⟩, ⟨13, .guard⟩], guard := some (13, true) }) hH.out (by rintro w ⟨s0, s1⟩; go_simp <;> with_reducible rfl) ?_
            simp only [Act.put, sA, sB, sC]
            refine tk (i := 19) (oi := { dst := some 73, op := .binOp .lss 3 (.tmp 72) (.const (Go.Value.int Go.IntKind.i64 3)) 3, type := 4, pos := "law.go:77", after := #[⟨18, .data⟩, ⟨13, .guard⟩], guard := some (13, true) }) hH.out (by rintro w ⟨s0, s1⟩; go_simp <;> with_reducible rfl) ?_
            simp only [Act.put, sA, sB, sC]
            refine tk (i := 20) (oi := ⟨some 74, .pick (.tmp 67) (.tmp 73) (.const (Go.Value.bool false)), 4, "law.go:77", #[⟨13, .data⟩, ⟨19, .data⟩], none⟩) hH.out (by rintro w ⟨s0, s1⟩; go_simp <;> with_reducible rfl) ?_
            simp only [Act.put, sA, sB, sC]
            refine wpAnyH_done (by kernel_rfl) ?_ _
            go_upto_region 11 with (fail)
            have KA' := Lib.hid (HKP.out _ _ HM4.out.drew.adv)
            obtain ⟨cz, fz⟩ := HM4.out.drew.at_ HJL.out
            have hput : Sp w d z t ((mkL s).set j (xk != 1)) (w4.setCell ⟨z, j, none⟩ (.bool (xk != 1))).drew := (HM4.out.put j (xk != 1) 0 HW0.out).drew
            rw [HMK.out] at hput
            have HPUT := Lib.hid hput
            have KB := Lib.hid (HKP.out _ _ hput.adv)
            clear hput
            refine rstart (S := (fun w' => w'.cell? ⟨b, o + i * 2, none⟩ = some (.int .i64 xk) ∧ w'.cell? ⟨b, o + i * 2 + 1, none⟩ = some (.int .i64 (j : Int)))) (by first | with_reducible exact KB.out | with_reducible exact KA'.out) (fun hH => ?_)
            refine tk (i := 0) (oi := ⟨some 75, .move (.tmp 7), 50, "law.go:78", #[], none⟩) hH.out (by rintro w ⟨s0, s1⟩; go_simp <;> with_reducible rfl) ?_
            simp only [Act.put, sA, sB, sC]
            refine tk (i := 1) (oi := ⟨some 76, .move (.tmp 1), 22, "law.go:78", #[], none⟩) hH.out (by rintro w ⟨s0, s1⟩; go_simp <;> with_reducible rfl) ?_
            simp only [Act.put, sA, sB, sC]
            refine tk (i := 2) (oi := ⟨some 77, .move (.tmp 8), 3, "law.go:78", #[], none⟩) hH.out (by rintro w ⟨s0, s1⟩; go_simp <;> with_reducible rfl) ?_
            simp only [Act.put, sA, sB, sC]
            refine tk (i := 3) (oi := ⟨some 78, .indexAddr 22 (.tmp 76) (.tmp 77), 0, "law.go:78", #[⟨1, .data⟩, ⟨2, .data⟩], none⟩) hH.out (by rintro w ⟨s0, s1⟩; go_simp <;> with_reducible rfl) ?_
            simp only [Act.put, sA, sB, sC]
            refine tk (i := 4) (oi := ⟨some 79, .fieldAddr 31 (.tmp 78) 1, 0, "law.go:78", #[⟨3, .data⟩], none⟩) hH.out (by rintro w ⟨s0, s1⟩; go_simp <;> with_reducible rfl) ?_
            simp only [Act.put, sA, sB, sC]
            refine tk (i := 5) (oi := ⟨some 80, .load 3 (.tmp 79), 3, "law.go:78", #[⟨4, .data⟩], none⟩) hH.out (by rintro w ⟨s0, s1⟩; go_simp <;> with_reducible rfl) ?_
            simp only [Act.put, sA, sB, sC]
            refine tk (i := 6) (oi := ⟨some 81, .move (.tmp 0), 3, "law.go:78", #[], none⟩) hH.out (by rintro w ⟨s0, s1⟩; go_simp <;> with_reducible rfl) ?_
            simp only [Act.put, sA, sB, sC]
            refine tk (i := 7) (oi := ⟨some 82, .binOp .sub 3 (.tmp 81) (.const (Go.Value.int Go.IntKind.i64 1)) 3, 3, "law.go:78", #[⟨6, .data⟩], none⟩) hH.out (by rintro w ⟨s0, s1⟩; go_simp <;> with_reducible rfl) ?_
            simp only [Act.put, sA, sB, sC]
            refine tk (i := 9) (oi := ⟨some 84, .move (.tmp 1), 22, "law.go:78", #[], none⟩) hH.out (by rintro w ⟨s0, s1⟩; go_simp <;> with_reducible rfl) ?_
            simp only [Act.put, sA, sB, sC]
            refine tk (i := 10) (oi := ⟨some 85, .move (.tmp 8), 3, "law.go:78", #[], none⟩) hH.out (by rintro w ⟨s0, s1⟩; go_simp <;> with_reducible rfl) ?_
            simp only [Act.put, sA, sB, sC]
            refine tk (i := 11) (oi := ⟨some 86, .indexAddr 22 (.tmp 84) (.tmp 85), 0, "law.go:78", #[⟨9, .data⟩, ⟨10, .data⟩], none⟩) hH.out (by rintro w ⟨s0, s1⟩; go_simp <;> with_reducible rfl) ?_
            simp only [Act.put, sA, sB, sC]
            refine tk (i := 12) (oi := ⟨some 87, .fieldAddr 31 (.tmp 86) 0, 0, "law.go:78", #[⟨11, .data⟩], none⟩) hH.out (by rintro w ⟨s0, s1⟩; go_simp <;> with_reducible rfl) ?_
            simp only [Act.put, sA, sB, sC]
            refine tk (i := 13) (oi := ⟨some 88, .load 3 (.tmp 87), 3, "law.go:78", #[⟨12, .data⟩], none⟩) hH.out (by rintro w ⟨s0, s1⟩; go_simp <;> with_reducible rfl) ?_
            simp only [Act.put, sA, sB, sC]
            refine tk (i := 14) (oi := ⟨some 89, .binOp .neq 3 (.tmp 88) (.const (Go.Value.int Go.IntKind.i64 1)) 3, 4, "law.go:78", #[⟨13, .data⟩], none⟩) hH.out (by rintro w ⟨s0, s1⟩; go_simp <;> with_reducible rfl) ?_
            simp only [Act.put, sA, sB, sC]
            refine rdy (i := 8) (oi := ⟨some 83, .call ⟨.value (.func 18), #[.tmp 80, .const (Go.Value.int Go.IntKind.i64 0), .tmp 82], #[3, 3, 3]⟩, 3, "law.go:78", #[⟨5, .data⟩, ⟨7, .data⟩], none⟩) (fun K hK => ?_)
            go_simp
            rw [HWR.out]
            refine (HWI.out _).mono ?_
            rintro e w5 ⟨rfl, rfl⟩
            go_wp2_with fail
            refine hK.out _ _ (by first | with_reducible exact KB.out | with_reducible exact KA'.out) (fun hHeld => ?_)
            replace hH := Lib.hid hHeld
            clear hK K hHeld
            try simp only [Act.put, sA, sB, sC]
            refine tk (i := 15) (oi := ⟨some 90, .indexAddr 50 (.tmp 75) (.tmp 83), 0, "law.go:78", #[⟨0, .data⟩, ⟨8, .data⟩, ⟨0, .phase⟩, ⟨1, .phase⟩, ⟨2, .phase⟩, ⟨3, .phase⟩, ⟨4, .phase⟩, ⟨5, .phase⟩, ⟨6, .phase⟩, ⟨7, .phase⟩, ⟨8, .phase⟩, ⟨9, .phase⟩, ⟨10, .phase⟩, ⟨11, .phase⟩, ⟨12, .phase⟩, ⟨13, .phase⟩, ⟨14, .phase⟩], none⟩) hH.out (by rintro w ⟨s0, s1⟩; go_simp <;> with_reducible rfl) ?_
            simp only [Act.put, sA, sB, sC]
            refine rdy (i := 16) (oi := ⟨none, .store 4 (.tmp 90) (.tmp 89), 0, "law.go:78", #[⟨15, .data⟩, ⟨14, .data⟩, ⟨8, .chain⟩, ⟨0, .phase⟩, ⟨1, .phase⟩, ⟨2, .phase⟩, ⟨3, .phase⟩, ⟨4, .phase⟩, ⟨5, .phase⟩, ⟨6, .phase⟩, ⟨7, .phase⟩, ⟨8, .phase⟩, ⟨9, .phase⟩, ⟨10, .phase⟩, ⟨11, .phase⟩, ⟨12, .phase⟩, ⟨13, .phase⟩, ⟨14, .phase⟩], none⟩) (fun K hK => ?_)
            go_simp
            refine hK.out _ _ (by first | with_reducible exact KB.out | with_reducible exact KA'.out) (fun hHeld => ?_)
            replace hH := Lib.hid hHeld
            clear hK K hHeld
            try simp only [Act.put]
            refine wpAnyH_done (by kernel_rfl) ?_ _
            go_wp2_with fail
            exact ⟨⟨i + 1, t, by simp, HIM.out, HI6.out, HTN.out, HPUT.out⟩, by simp [intOf]; omega⟩
          · as_aux_lemma =>
            have hkk := (do_keeps (k := xk) (s := s) (i := y) (.inr (by omega))).1
            rw [hE] at HW1
            have hx3 : 3 ≤ xk := by omega
            generalize doC xk s y = t at HW1 hkk HTN
            have HKK := Lib.hid hkk
            clear hkk hE hcc hk3 c0 c1
            go_upto_region 10 with (fail)
            refine rstart (S := (fun w' => w'.cell? ⟨b, o + i * 2, none⟩ = some (.int .i64 xk) ∧ w'.cell? ⟨b, o + i * 2 + 1, none⟩ = some (.int .i64 y))) (by first | with_reducible exact KA.out | with_reducible exact K0.out) (fun hH => ?_)
            refine tk (i := 0) (oi := ⟨some 54, .move (.tmp 5), 23, "law.go:77", #[], none⟩) hH.out (by rintro w ⟨s0, s1⟩; go_simp <;> with_reducible rfl) ?_
            simp only [Act.put, sA, sB, sC]
            refine tk (i := 1) (oi := ⟨some 55, .move (.tmp 1), 22, "law.go:77", #[], none⟩) hH.out (by rintro w ⟨s0, s1⟩; go_simp <;> with_reducible rfl) ?_
            simp only [Act.put, sA, sB, sC]
            refine tk (i := 2) (oi := ⟨some 56, .move (.tmp 8), 3, "law.go:77", #[], none⟩) hH.out (by rintro w ⟨s0, s1⟩; go_simp <;> with_reducible rfl) ?_
            simp only [Act.put, sA, sB, sC]
            refine tk (i := 3) (oi := ⟨some 57, .indexAddr 22 (.tmp 55) (.tmp 56), 0, "law.go:77", #[⟨1, .data⟩, ⟨2, .data⟩], none⟩) hH.out (by rintro w ⟨s0, s1⟩; go_simp <;> with_reducible rfl) ?_
            simp only [Act.put, sA, sB, sC]
            refine tk (i := 4) (oi := ⟨some 58, .fieldAddr 31 (.tmp 57) 0, 0, "law.go:77", #[⟨3, .data⟩], none⟩) hH.out (by rintro w ⟨s0, s1⟩; go_simp <;> with_reducible rfl) ?_
            simp only [Act.put, sA, sB, sC]
            refine tk (i := 5) (oi := ⟨some 59, .load 3 (.tmp 58), 3, "law.go:77", #[⟨4, .data⟩], none⟩) hH.out (by rintro w ⟨s0, s1⟩; go_simp <;> with_reducible rfl) ?_
            simp only [Act.put, sA, sB, sC]
            refine tk (i := 6) (oi := ⟨some 60, .move (.tmp 1), 22, "law.go:77", #[], none⟩) hH.out (by rintro w ⟨s0, s1⟩; go_simp <;> with_reducible rfl) ?_
            simp only [Act.put, sA, sB, sC]
            refine tk (i := 7) (oi := ⟨some 61, .move (.tmp 8), 3, "law.go:77", #[], none⟩) hH.out (by rintro w ⟨s0, s1⟩; go_simp <;> with_reducible rfl) ?_
            simp only [Act.put, sA, sB, sC]
            refine tk (i := 8) (oi := ⟨some 62, .indexAddr 22 (.tmp 60) (.tmp 61), 0, "law.go:77", #[⟨6, .data⟩, ⟨7, .data⟩], none⟩) hH.out (by rintro w ⟨s0, s1⟩; go_simp <;> with_reducible rfl) ?_
            simp only [Act.put, sA, sB, sC]
            refine tk (i := 9) (oi := ⟨some 63, .fieldAddr 31 (.tmp 62) 1, 0, "law.go:77", #[⟨8, .data⟩], none⟩) hH.out (by rintro w ⟨s0, s1⟩; go_simp <;> with_reducible rfl) ?_
            simp only [Act.put, sA, sB, sC]
            refine tk (i := 10) (oi := ⟨some 64, .load 3 (.tmp 63), 3, "law.go:77", #[⟨9, .data⟩], none⟩) hH.out (by rintro w ⟨s0, s1⟩; go_simp <;> with_reducible rfl) ?_
            simp only [Act.put, sA, sB, sC]
            refine rdy (i := 11) (oi := ⟨some 65, .call ⟨.value (.func 8), #[.tmp 54, .tmp 59, .tmp 64], #[23, 3, 3]⟩, 24, "law.go:77", #[⟨0, .data⟩, ⟨5, .data⟩, ⟨10, .data⟩], none⟩) (fun K hK => ?_)
            go_simp
            refine (HW1.out _ HX.out.drew).mono ?_
            rintro e w4 ⟨rfl, a4, b4⟩
            have HM4 := Lib.hid (HX.out.drew.next a4 b4 HW0.out)
            have KA := Lib.hid (HKP.out _ _ HM4.out.adv)
            clear a4 b4
            go_wp2_with fail
            refine hK.out _ _ (by first | with_reducible exact KA.out | with_reducible exact K0.out) (fun hHeld => ?_)
            replace hH := Lib.hid hHeld
            clear hK K hHeld
            try simp only [Act.put, sA, sB, sC]
            refine tk (i := 12) (oi := ⟨some 66, .binOp .eql 24 (.tmp 65) (.const (Go.Value.int Go.IntKind.i64 0)) 24, 4, "law.go:77", #[⟨11, .data⟩], none⟩) hH.out (by rintro w ⟨s0, s1⟩; go_simp <;> with_reducible rfl) ?_
            simp only [Act.put, sA, sB, sC]
            refine tk (i := 13) (oi := ⟨some 67, .move (.tmp 66), 4, "law.go:77", #[⟨12, .data⟩, ⟨11, .chain⟩], none⟩) hH.out (by rintro w ⟨s0, s1⟩; go_simp <;> with_reducible rfl) ?_
            simp only [Act.put, sA, sB, sC]
            refine tk (i := 14) (oi := { dst := some 68, op := .move (.tmp 1), type := 22, pos := "law.go:77", after := #[⟨13, .guard⟩], guard := some (13, true) }) hH.out (by rintro w ⟨s0, s1⟩; go_simp <;> with_reducible rfl) ?_
            simp only [Act.put, sA, sB, sC]
            refine tk (i := 15) (oi := { dst := some 69, op := .move (.tmp 8), type := 3, pos := "law.go:77", after := #[⟨13, .guard⟩], guard := some (13, true) }) hH.out (by rintro w ⟨s0, s1⟩; go_simp <;> with_reducible rfl) ?_
            simp only [Act.put, sA, sB, sC]
            refine tk (i := 16) (oi := { dst := some 70, op := .indexAddr 22 (.tmp 68) (.tmp 69), type := 0, pos := "law.go:77", after := #[⟨14, .data⟩, ⟨15, .data⟩, ⟨13, .guard⟩], guard := some (13, true) }) hH.out (by rintro w ⟨s0, s1⟩; go_simp <;> with_reducible rfl) ?_
            simp only [Act.put, sA, sB, sC]
            refine tk (i := 17) (oi := { dst := some 71, op := .fieldAddr 31 (.tmp 70) 0, type := 0, pos := "law.go:77", after := #[⟨16, .data⟩, ⟨13, .guard⟩], guard := some (13, true) }) hH.out (by rintro w ⟨s0, s1⟩; go_simp <;> with_reducible rfl) ?_
            simp only [Act.put, sA, sB, sC]
            refine tk (i := 18) (oi := { dst := some 72, op := .load 3 (.tmp 71), type := 3, pos := "law.go:77", after := #[⟨17, .data⟩, ⟨13, .guard⟩], guard := some (13, true) }) hH.out (by rintro w ⟨s0, s1⟩; go_simp <;> with_reducible rfl) ?_
            simp only [Act.put, sA, sB, sC]
            refine tk (i := 19) (oi := { dst := some 73, op := .binOp .lss 3 (.tmp 72) (.const (Go.Value.int Go.IntKind.i64 3)) 3, type := 4, pos := "law.go:77", after := #[⟨18, .data⟩, ⟨13, .guard⟩], guard := some (13, true) }) hH.out (by rintro w ⟨s0, s1⟩; go_simp <;> with_reducible rfl) ?_
            simp only [Act.put, sA, sB, sC]
            refine tk (i := 20) (oi := ⟨some 74, .pick (.tmp 67) (.tmp 73) (.const (Go.Value.bool false)), 4, "law.go:77", #[⟨13, .data⟩, ⟨19, .data⟩], none⟩) hH.out (by rintro w ⟨s0, s1⟩; go_simp <;> with_reducible rfl) ?_
            simp only [Act.put, sA, sB, sC]
            refine wpAnyH_done (by kernel_rfl) ?_ _
            go_wp2_with fail
            exact ⟨⟨i + 1, t, by simp, HIM.out, HI6.out, HTN.out, by rw [HKK.out]; exact HM4.out⟩, by simp [intOf]; omega⟩
        · as_aux_lemma =>
          have hkk := (do_keeps (k := xk) (s := s) (i := y) (.inl hE)).1
          rcases do_vals xk s y with e | e | e
          · exact (hE e).elim
          · rw [e] at HW1
            generalize doC xk s y = t at HW1 hkk HTN
            have HKK := Lib.hid hkk
            clear hkk hE hcc c0 c1 e
            go_upto_region 10 with (fail)
            refine rstart (S := (fun w' => w'.cell? ⟨b, o + i * 2, none⟩ = some (.int .i64 xk) ∧ w'.cell? ⟨b, o + i * 2 + 1, none⟩ = some (.int .i64 y))) (by first | with_reducible exact KA.out | with_reducible exact K0.out) (fun hH => ?_)
            refine tk (i := 0) (oi := ⟨some 54, .move (.tmp 5), 23, "law.go:77", #[], none⟩) hH.out (by rintro w ⟨s0, s1⟩; go_simp <;> with_reducible rfl) ?_
            simp only [Act.put, sA, sB, sC]
            refine tk (i := 1) (oi := ⟨some 55, .move (.tmp 1), 22, "law.go:77", #[], none⟩) hH.out (by rintro w ⟨s0, s1⟩; go_simp <;> with_reducible rfl) ?_
            simp only [Act.put, sA, sB, sC]
            refine tk (i := 2) (oi := ⟨some 56, .move (.tmp 8), 3, "law.go:77", #[], none⟩) hH.out (by rintro w ⟨s0, s1⟩; go_simp <;> with_reducible rfl) ?_
            simp only [Act.put, sA, sB, sC]
            refine tk (i := 3) (oi := ⟨some 57, .indexAddr 22 (.tmp 55) (.tmp 56), 0, "law.go:77", #[⟨1, .data⟩, ⟨2, .data⟩], none⟩) hH.out (by rintro w ⟨s0, s1⟩; go_simp <;> with_reducible rfl) ?_
            simp only [Act.put, sA, sB, sC]
            refine tk (i := 4) (oi := ⟨some 58, .fieldAddr 31 (.tmp 57) 0, 0, "law.go:77", #[⟨3, .data⟩], none⟩) hH.out (by rintro w ⟨s0, s1⟩; go_simp <;> with_reducible rfl) ?_
            simp only [Act.put, sA, sB, sC]
            refine tk (i := 5) (oi := ⟨some 59, .load 3 (.tmp 58), 3, "law.go:77", #[⟨4, .data⟩], none⟩) hH.out (by rintro w ⟨s0, s1⟩; go_simp <;> with_reducible rfl) ?_
            simp only [Act.put, sA, sB, sC]
            refine tk (i := 6) (oi := ⟨some 60, .move (.tmp 1), 22, "law.go:77", #[], none⟩) hH.out (by rintro w ⟨s0, s1⟩; go_simp <;> with_reducible rfl) ?_
            simp only [Act.put, sA, sB, sC]
            refine tk (i := 7) (oi := ⟨some 61, .move (.tmp 8), 3, "law.go:77", #[], none⟩) hH.out (by rintro w ⟨s0, s1⟩; go_simp <;> with_reducible rfl) ?_
            simp only [Act.put, sA, sB, sC]
            refine tk (i := 8) (oi := ⟨some 62, .indexAddr 22 (.tmp 60) (.tmp 61), 0, "law.go:77", #[⟨6, .data⟩, ⟨7, .data⟩], none⟩) hH.out (by rintro w ⟨s0, s1⟩; go_simp <;> with_reducible rfl) ?_
            simp only [Act.put, sA, sB, sC]
            refine tk (i := 9) (oi := ⟨some 63, .fieldAddr 31 (.tmp 62) 1, 0, "law.go:77", #[⟨8, .data⟩], none⟩) hH.out (by rintro w ⟨s0, s1⟩; go_simp <;> with_reducible rfl) ?_
            simp only [Act.put, sA, sB, sC]
            refine tk (i := 10) (oi := ⟨some 64, .load 3 (.tmp 63), 3, "law.go:77", #[⟨9, .data⟩], none⟩) hH.out (by rintro w ⟨s0, s1⟩; go_simp <;> with_reducible rfl) ?_
            simp only [Act.put, sA, sB, sC]
            refine rdy (i := 11) (oi := ⟨some 65, .call ⟨.value (.func 8), #[.tmp 54, .tmp 59, .tmp 64], #[23, 3, 3]⟩, 24, "law.go:77", #[⟨0, .data⟩, ⟨5, .data⟩, ⟨10, .data⟩], none⟩) (fun K hK => ?_)
            go_simp
            refine (HW1.out _ HX.out.drew).mono ?_
            rintro e w4 ⟨rfl, a4, b4⟩
            have HM4 := Lib.hid (HX.out.drew.next a4 b4 HW0.out)
            have KA := Lib.hid (HKP.out _ _ HM4.out.adv)
            clear a4 b4
            go_wp2_with fail
            refine hK.out _ _ (by first | with_reducible exact KA.out | with_reducible exact K0.out) (fun hHeld => ?_)
            replace hH := Lib.hid hHeld
            clear hK K hHeld
            try simp only [Act.put, sA, sB, sC]
            refine tk (i := 12) (oi := ⟨some 66, .binOp .eql 24 (.tmp 65) (.const (Go.Value.int Go.IntKind.i64 0)) 24, 4, "law.go:77", #[⟨11, .data⟩], none⟩) hH.out (by rintro w ⟨s0, s1⟩; go_simp <;> with_reducible rfl) ?_
            simp only [Act.put, sA, sB, sC]
            refine tk (i := 13) (oi := ⟨some 67, .move (.tmp 66), 4, "law.go:77", #[⟨12, .data⟩, ⟨11, .chain⟩], none⟩) hH.out (by rintro w ⟨s0, s1⟩; go_simp <;> with_reducible rfl) ?_
            simp only [Act.put, sA, sB, sC]
            refine tks (i := 14) (oi := { dst := some 68, op := .move (.tmp 1), type := 22, pos := "law.go:77", after := #[⟨13, .guard⟩], guard := some (13, true) }) hH.out ?_
            try simp only [Act.put, sA, sB, sC]
            refine tks (i := 15) (oi := { dst := some 69, op := .move (.tmp 8), type := 3, pos := "law.go:77", after := #[⟨13, .guard⟩], guard := some (13, true) }) hH.out ?_
            try simp only [Act.put, sA, sB, sC]
            refine tks (i := 16) (oi := { dst := some 70, op := .indexAddr 22 (.tmp 68) (.tmp 69), type := 0, pos := "law.go:77", after := #[⟨14, .data⟩, ⟨15, .data⟩, ⟨13, .guard⟩], guard := some (13, true) }) hH.out ?_
            try simp only [Act.put, sA, sB, sC]
            refine tks (i := 17) (oi := { dst := some 71, op := .fieldAddr 31 (.tmp 70) 0, type := 0, pos := "law.go:77", after := #[⟨16, .data⟩, ⟨13, .guard⟩], guard := some (13, true) }) hH.out ?_
            try simp only [Act.put, sA, sB, sC]
            refine tks (i := 18) (oi := { dst := some 72, op := .load 3 (.tmp 71), type := 3, pos := "law.go:77", after := #[⟨17, .data⟩, ⟨13, .guard⟩], guard := some (13, true) }) hH.out ?_
            try simp only [Act.put, sA, sB, sC]
            refine tks (i := 19) (oi := { dst := some 73, op := .binOp .lss 3 (.tmp 72) (.const (Go.Value.int Go.IntKind.i64 3)) 3, type := 4, pos := "law.go:77", after := #[⟨18, .data⟩, ⟨13, .guard⟩], guard := some (13, true) }) hH.out ?_
            try simp only [Act.put, sA, sB, sC]
            refine tk (i := 20) (oi := ⟨some 74, .pick (.tmp 67) (.tmp 73) (.const (Go.Value.bool false)), 4, "law.go:77", #[⟨13, .data⟩, ⟨19, .data⟩], none⟩) hH.out (by rintro w ⟨s0, s1⟩; go_simp <;> with_reducible rfl) ?_
            simp only [Act.put, sA, sB, sC]
            refine wpAnyH_done (by kernel_rfl) ?_ _
            go_wp2_with fail
            exact ⟨⟨i + 1, t, by simp, HIM.out, HI6.out, HTN.out, by rw [HKK.out]; exact HM4.out⟩, by simp [intOf]; omega⟩
          · rw [e] at HW1
            generalize doC xk s y = t at HW1 hkk HTN
            have HKK := Lib.hid hkk
            clear hkk hE hcc c0 c1 e
            go_upto_region 10 with (fail)
            refine rstart (S := (fun w' => w'.cell? ⟨b, o + i * 2, none⟩ = some (.int .i64 xk) ∧ w'.cell? ⟨b, o + i * 2 + 1, none⟩ = some (.int .i64 y))) (by first | with_reducible exact KA.out | with_reducible exact K0.out) (fun hH => ?_)
            refine tk (i := 0) (oi := ⟨some 54, .move (.tmp 5), 23, "law.go:77", #[], none⟩) hH.out (by rintro w ⟨s0, s1⟩; go_simp <;> with_reducible rfl) ?_
            simp only [Act.put, sA, sB, sC]
            refine tk (i := 1) (oi := ⟨some 55, .move (.tmp 1), 22, "law.go:77", #[], none⟩) hH.out (by rintro w ⟨s0, s1⟩; go_simp <;> with_reducible rfl) ?_
            simp only [Act.put, sA, sB, sC]
            refine tk (i := 2) (oi := ⟨some 56, .move (.tmp 8), 3, "law.go:77", #[], none⟩) hH.out (by rintro w ⟨s0, s1⟩; go_simp <;> with_reducible rfl) ?_
            simp only [Act.put, sA, sB, sC]
            refine tk (i := 3) (oi := ⟨some 57, .indexAddr 22 (.tmp 55) (.tmp 56), 0, "law.go:77", #[⟨1, .data⟩, ⟨2, .data⟩], none⟩) hH.out (by rintro w ⟨s0, s1⟩; go_simp <;> with_reducible rfl) ?_
            simp only [Act.put, sA, sB, sC]
            refine tk (i := 4) (oi := ⟨some 58, .fieldAddr 31 (.tmp 57) 0, 0, "law.go:77", #[⟨3, .data⟩], none⟩) hH.out (by rintro w ⟨s0, s1⟩; go_simp <;> with_reducible rfl) ?_
            simp only [Act.put, sA, sB, sC]
            refine tk (i := 5) (oi := ⟨some 59, .load 3 (.tmp 58), 3, "law.go:77", #[⟨4, .data⟩], none⟩) hH.out (by rintro w ⟨s0, s1⟩; go_simp <;> with_reducible rfl) ?_
            simp only [Act.put, sA, sB, sC]
            refine tk (i := 6) (oi := ⟨some 60, .move (.tmp 1), 22, "law.go:77", #[], none⟩) hH.out (by rintro w ⟨s0, s1⟩; go_simp <;> with_reducible rfl) ?_
            simp only [Act.put, sA, sB, sC]
            refine tk (i := 7) (oi := ⟨some 61, .move (.tmp 8), 3, "law.go:77", #[], none⟩) hH.out (by rintro w ⟨s0, s1⟩; go_simp <;> with_reducible rfl) ?_
            simp only [Act.put, sA, sB, sC]
            refine tk (i := 8) (oi := ⟨some 62, .indexAddr 22 (.tmp 60) (.tmp 61), 0, "law.go:77", #[⟨6, .data⟩, ⟨7, .data⟩], none⟩) hH.out (by rintro w ⟨s0, s1⟩; go_simp <;> with_reducible rfl) ?_
            simp only [Act.put, sA, sB, sC]
            refine tk (i := 9) (oi := ⟨some 63, .fieldAddr 31 (.tmp 62) 1, 0, "law.go:77", #[⟨8, .data⟩], none⟩) hH.out (by rintro w ⟨s0, s1⟩; go_simp <;> with_reducible rfl) ?_
            simp only [Act.put, sA, sB, sC]
            refine tk (i := 10) (oi := ⟨some 64, .load 3 (.tmp 63), 3, "law.go:77", #[⟨9, .data⟩], none⟩) hH.out (by rintro w ⟨s0, s1⟩; go_simp <;> with_reducible rfl) ?_
            simp only [Act.put, sA, sB, sC]
            refine rdy (i := 11) (oi := ⟨some 65, .call ⟨.value (.func 8), #[.tmp 54, .tmp 59, .tmp 64], #[23, 3, 3]⟩, 24, "law.go:77", #[⟨0, .data⟩, ⟨5, .data⟩, ⟨10, .data⟩], none⟩) (fun K hK => ?_)
            go_simp
            refine (HW1.out _ HX.out.drew).mono ?_
            rintro e w4 ⟨rfl, a4, b4⟩
            have HM4 := Lib.hid (HX.out.drew.next a4 b4 HW0.out)
            have KA := Lib.hid (HKP.out _ _ HM4.out.adv)
            clear a4 b4
            go_wp2_with fail
            refine hK.out _ _ (by first | with_reducible exact KA.out | with_reducible exact K0.out) (fun hHeld => ?_)
            replace hH := Lib.hid hHeld
            clear hK K hHeld
            try simp only [Act.put, sA, sB, sC]
            refine tk (i := 12) (oi := ⟨some 66, .binOp .eql 24 (.tmp 65) (.const (Go.Value.int Go.IntKind.i64 0)) 24, 4, "law.go:77", #[⟨11, .data⟩], none⟩) hH.out (by rintro w ⟨s0, s1⟩; go_simp <;> with_reducible rfl) ?_
            simp only [Act.put, sA, sB, sC]
            refine tk (i := 13) (oi := ⟨some 67, .move (.tmp 66), 4, "law.go:77", #[⟨12, .data⟩, ⟨11, .chain⟩], none⟩) hH.out (by rintro w ⟨s0, s1⟩; go_simp <;> with_reducible rfl) ?_
            simp only [Act.put, sA, sB, sC]
            refine tks (i := 14) (oi := { dst := some 68, op := .move (.tmp 1), type := 22, pos := "law.go:77", after := #[⟨13, .guard⟩], guard := some (13, true) }) hH.out ?_
            try simp only [Act.put, sA, sB, sC]
            refine tks (i := 15) (oi := { dst := some 69, op := .move (.tmp 8), type := 3, pos := "law.go:77", after := #[⟨13, .guard⟩], guard := some (13, true) }) hH.out ?_
            try simp only [Act.put, sA, sB, sC]
            refine tks (i := 16) (oi := { dst := some 70, op := .indexAddr 22 (.tmp 68) (.tmp 69), type := 0, pos := "law.go:77", after := #[⟨14, .data⟩, ⟨15, .data⟩, ⟨13, .guard⟩], guard := some (13, true) }) hH.out ?_
            try simp only [Act.put, sA, sB, sC]
            refine tks (i := 17) (oi := { dst := some 71, op := .fieldAddr 31 (.tmp 70) 0, type := 0, pos := "law.go:77", after := #[⟨16, .data⟩, ⟨13, .guard⟩], guard := some (13, true) }) hH.out ?_
            try simp only [Act.put, sA, sB, sC]
            refine tks (i := 18) (oi := { dst := some 72, op := .load 3 (.tmp 71), type := 3, pos := "law.go:77", after := #[⟨17, .data⟩, ⟨13, .guard⟩], guard := some (13, true) }) hH.out ?_
            try simp only [Act.put, sA, sB, sC]
            refine tks (i := 19) (oi := { dst := some 73, op := .binOp .lss 3 (.tmp 72) (.const (Go.Value.int Go.IntKind.i64 3)) 3, type := 4, pos := "law.go:77", after := #[⟨18, .data⟩, ⟨13, .guard⟩], guard := some (13, true) }) hH.out ?_
            try simp only [Act.put, sA, sB, sC]
            refine tk (i := 20) (oi := ⟨some 74, .pick (.tmp 67) (.tmp 73) (.const (Go.Value.bool false)), 4, "law.go:77", #[⟨13, .data⟩, ⟨19, .data⟩], none⟩) hH.out (by rintro w ⟨s0, s1⟩; go_simp <;> with_reducible rfl) ?_
            simp only [Act.put, sA, sB, sC]
            refine wpAnyH_done (by kernel_rfl) ?_ _
            go_wp2_with fail
            exact ⟨⟨i + 1, t, by simp, HIM.out, HI6.out, HTN.out, by rw [HKK.out]; exact HM4.out⟩, by simp [intOf]; omega⟩
      · have eC : C = false := by rw [HC.out]; exact decide_eq_false hcc
        subst eC
        clear HC hcc K0 HKP c0 c1
        have HU := Lib.hid (fun w' (h : Sp w d z s (mkL s) w') => cused_any w' d s h.cl h.tz)
        have HPN := Lib.hid (fun w' (h : Sp w d z s (mkL s) w') => cpinned_any w' d s h.cl h.tz)
        have HNX := Lib.hid (fun w' (h : Sp w d z s (mkL s) w') => cnext_any w' d s h.cl h.tz)
        rcases next_good HX.out.cl.ok with ⟨e, el⟩ | ⟨k, t, e, hk, hkp, hgood⟩
        · rw [e] at HNX
          rw [HSN.out] at el
          have HEL := Lib.hid el
          have hN2 : (N : Int) ≤ 64 := by have := H2.out; omega
          clear e el
          as_aux_lemma =>
          go_wp2_with (first
            | (go_at_call 14; refine (HU.out _ HX.out).mono ?_; rintro e w3 ⟨v3, F3, rfl, a3, b3⟩; have HA3 := Lib.hid a3; have HB3 := Lib.hid b3; have HX3 := Lib.hid (HX.out.still b3); obtain ⟨A3, c3, rfl, _, _⟩ := a3.form0; clear a3 b3)
            | (go_at_call 15; refine (HPN.out _ HX3.out).mono ?_; rintro e w4 ⟨v4, F4, rfl, a4, b4⟩; rw [HEL.out] at a4; have HX4 := Lib.hid (HX3.out.still b4); obtain ⟨A4, c4, rfl, _, _⟩ := a4.form0; clear a4 b4)
            | (go_at_call 10; refine (HNX.out _ HX4.out).mono ?_; rintro e w5 ⟨rfl, a5, b5⟩; have HX5 := Lib.hid (HX4.out.next a5 b5 HW0.out); clear a5 b5)
            | fail)
          exact ⟨⟨i + 1, s, by simp, HIM.out, HI6.out, HSN.out, HX5.out⟩, by simp [intOf]; omega⟩
        · rw [e] at HNX
          as_aux_lemma =>
          rw [HSN.out] at hk hgood
          have hkN : (k : Int) < (N : Int) := by omega
          have hN2 : (N : Int) ≤ 64 := by have := H2.out; omega
          have HKL := Lib.hid hk
          have HKP2 := Lib.hid hkp
          have HGD := Lib.hid hgood
          have hlu := bitsL_len s.u
          obtain ⟨U, hU⟩ : ∃ U, U = (bitsL s.u).length := ⟨_, rfl⟩
          have HUE := Lib.hid hU
          rw [← hU] at hlu
          obtain ⟨Pn, hPn⟩ : ∃ Pn, Pn = (bitsL s.p).length := ⟨_, rfl⟩
          have HPE := Lib.hid hPn
          have hU64 : (U : Int) ≤ 64 := by omega
          clear e hk hkp hgood hU hlu hPn
          go_upto_region 17 with (first
            | (go_at_call 14; refine (HU.out _ HX.out).mono ?_; rintro e w3 ⟨v3, F3, rfl, a3, b3⟩; rw [← HUE.out] at a3; have HA3 := Lib.hid a3; have HB3 := Lib.hid b3; have HX3 := Lib.hid (HX.out.still b3); obtain ⟨A3, c3, rfl, _, _⟩ := a3.form0; clear a3 b3)
            | (go_at_call 15; refine (HPN.out _ HX3.out).mono ?_; rintro e w4 ⟨v4, F4, rfl, a4, b4⟩; rw [← HPE.out] at a4; have HA4 := Lib.hid a4; have HB4 := Lib.hid b4; have HX4 := Lib.hid (HX3.out.still b4); obtain ⟨A4, c4, rfl, _, _⟩ := a4.form0; clear a4 b4)
            | (go_at_call 10; refine (HNX.out _ HX4.out).mono ?_; rintro e w5 ⟨rfl, a5, b5⟩; have HX5 := Lib.hid (HX4.out.next a5 b5 HW0.out); have HRD := Lib.hid (nxt_lists HX.out HA3.out HB3.out HA4.out HB4.out b5); clear a5 b5)
            | fail)
          go_cut [120] (fun t120 w9 => t120 = .bool false ∧ w5 = w9)
          case first =>
            go_wp2_with fail
            go_meet
            exact ⟨by first | rfl | (simp; omega), rfl⟩
          case rest =>
          obtain ⟨rfl, rfl⟩ := hcut
          first
            | go_upto_region 21 with (fail)
            | (rename_i Ky hKy; refine hKy _ _ ?_; go_upto_region 21 with (fail))
          go_loopg [13, 14] U (fun k a b wr => PlR w5 s U k a b wr)
          case atStart => exact ⟨0, 0, rfl, rfl, Nat.zero_add _, Nat.le_refl _, fun h => absurd h (by decide), rfl⟩
          case round =>
            obtain ⟨p, j, rfl, rfl, hj, hpj, hq, rfl⟩ := hrel
            have HQ := Lib.hid hq
            have hp64 : (p : Int) ≤ 64 := by omega
            have HPJ := Lib.hid hpj
            have HINA := Lib.hid (fun q => kin_any _ (bitsL s.p) q w5 (by rw [← HPE.out]; exact HRD.out.2))
            by_cases hlt : j < U
            · have hjl : j < (bitsL s.u).length := by rw [← HUE.out]; exact hlt
              obtain ⟨b3, o3, rfl, _, g1⟩ := HRD.out.1.cells (by omega) (by decide)
              have cj : w5.cell? ⟨b3, o3 + j, none⟩ = some (.int .i64 ((bitsL s.u)[j] : Int)) := g1 j _ (by unfold ints; rw [List.getElem?_map, List.getElem?_eq_getElem hjl]; rfl)
              have hmem : (bitsL s.u)[j] ∈ bitsL s.u := List.getElem_mem hjl
              obtain ⟨q, hqe⟩ : ∃ q, q = (bitsL s.u)[j] := ⟨_, rfl⟩
              rw [← hqe] at cj hmem
              have hqu : s.u.testBit q = true := (bitsL_mem HX.out.cl.ok.u64).1 hmem
              have hqN : q < N := by
                rcases Nat.lt_or_ge q N with z1 | z1
                · exact z1
                · rw [bit_out (n := N) (by rw [← HSN.out]; exact HX.out.cl.ok.u) z1] at hqu; cases hqu
              obtain ⟨cz, _⟩ := HX5.out.at_ (k := q) (by rw [mkL_len, HSN.out]; exact hqN)
              rw [mkL_at (by rw [HSN.out]; exact hqN)] at cz
              have HIN := Lib.hid (HINA.out q)
              have hdec : decide (q ∈ bitsL s.p) = s.p.testBit q := by
                by_cases z1 : q ∈ bitsL s.p
                · rw [decide_eq_true z1, (bitsL_mem HX.out.cl.ok.p64).1 z1]
                · rw [decide_eq_false z1]
                  cases z2 : s.p.testBit q
                  · rfl
                  · exact (z1 ((bitsL_mem HX.out.cl.ok.p64).2 z2)).elim
              rw [hdec] at HIN
              have hqN' : (q : Int) < (N : Int) := by omega
              have HQN := Lib.hid hqN
              have HLT := Lib.hid hlt
              have HGJ := Lib.hid (show j + gk = U ∧ 1 ≤ gk from ⟨hj, by omega⟩)
              obtain ⟨MB, hMB⟩ : ∃ MB, MB = s.m.testBit q := ⟨_, rfl⟩
              obtain ⟨PB, hPB⟩ : ∃ PB, PB = s.p.testBit q := ⟨_, rfl⟩
              rw [← hMB] at cz
              rw [← hPB] at HIN
              have HMB := Lib.hid hMB.symm
              have HPB := Lib.hid hPB.symm
              clear hj hpj hq hlt hjl g1 hmem hqe hqu hqN hdec hMB hPB HINA
              cases MB
              · cases PB
                · go_wp2_with (first
                    | (go_at_call 19; refine HIN.out.mono ?_; rintro e w6 ⟨rfl, rfl⟩)
                    | fail)
                  go_roundg (gk - 1)
                  case measure => have := HGJ.out; omega
                  case rel => exact ⟨p + 1, j + 1, by simp, by simp, by have := HGJ.out; omega, by have := HPJ.out; omega, fun _ => ⟨q, by rw [HSN.out]; exact HQN.out, HMB.out, HPB.out⟩, rfl⟩
                · go_wp2_with (first
                    | (go_at_call 19; refine HIN.out.mono ?_; rintro e w6 ⟨rfl, rfl⟩)
                    | fail)
                  go_roundg (gk - 1)
                  case measure => have := HGJ.out; omega
                  case rel => exact ⟨p, j + 1, rfl, by simp, by have := HGJ.out; omega, by have := HPJ.out; omega, HQ.out, rfl⟩
              · go_wp2_with fail
                go_roundg (gk - 1)
                case measure => have := HGJ.out; omega
                case rel => exact ⟨p, j + 1, rfl, by simp, by have := HGJ.out; omega, by have := HPJ.out; omega, HQ.out, rfl⟩
            · obtain rfl : gk = 0 := by omega
              obtain rfl : U = j := by omega
              have HIN := Lib.hid (HINA.out k)
              rw [decide_eq_false (fun z1 => by rw [(bitsL_mem HX.out.cl.ok.p64).1 z1] at HKP2; exact absurd HKP2.out (by decide))] at HIN
              have HBl := Lib.hid (show Below w.heap.size w w5 from HX5.out.adv.toBelow)
              have HTz := Lib.hid HX5.out.tz
              rcases HGD.out with ⟨h1, h2⟩ | ⟨h1, h2⟩
              · have HIU := Lib.hid (kin_any _ (bitsL s.u) k w5 (by rw [← HUE.out]; exact HRD.out.1))
                rw [decide_eq_false (fun z1 => by rw [(bitsL_mem HX.out.cl.ok.u64).1 z1] at h2; cases h2)] at HIU
                have hUN : (U : Int) < (N : Int) := by rw [← HUE.out] at h1; omega
                have hUE : ((U : Int) == (N : Int)) = false := by rw [beq_eq_false_iff_ne]; omega
                clear hj hpj hq hlt h1 h2 HINA hU64 hp64 hN2
                go_wp2_with (first
                  | (go_at_call 19; first | (refine HIN.out.mono ?_; rintro e w6 ⟨rfl, rfl⟩; clear HIN) | (refine HIU.out.mono ?_; rintro e w6 ⟨rfl, rfl⟩; clear HIU))
                  | (go_at_call 17; refine (clives_any _ HTz.out).mono ?_; rintro e w7 ⟨rfl, hb7⟩)
                  | fail)
                go_ret
                exact ⟨rfl, HBl.out.trans (hb7.mono HBl.out.size)⟩
              · rw [← HUE.out] at h1
                obtain ⟨cz, _⟩ := HX5.out.at_ (k := k) (by rw [mkL_len, HSN.out]; exact HKL.out)
                rw [mkL_at (by rw [HSN.out]; exact HKL.out)] at cz
                by_cases hp0 : p = 0
                · subst hp0
                  subst h1
                  clear hj hpj hq hlt h2 HINA cz hU64 hN2
                  go_wp2_with (first
                    | (go_at_call 19; refine HIN.out.mono ?_; rintro e w6 ⟨rfl, rfl⟩)
                    | (go_at_call 17; refine (clives_any _ HTz.out).mono ?_; rintro e w7 ⟨rfl, hb7⟩)
                    | fail)
                  go_ret
                  exact ⟨rfl, HBl.out.trans (hb7.mono HBl.out.size)⟩
                · obtain ⟨q, q1, q2, q3⟩ := hq (by omega)
                  rw [h2 q (by rw [← HSN.out]; exact q1) q2 q3] at cz
                  have hp1 : (0 : Int) < (p : Int) := by omega
                  subst h1
                  clear hj hpj hq hlt h2 HINA hp0 q1 q2 q3 hU64 hN2 hp64
                  go_wp2_with (first
                    | (go_at_call 19; refine HIN.out.mono ?_; rintro e w6 ⟨rfl, rfl⟩)
                    | (go_at_call 17; refine (clives_any _ HTz.out).mono ?_; rintro e w7 ⟨rfl, hb7⟩)
                    | fail)
                  go_ret
                  exact ⟨rfl, HBl.out.trans (hb7.mono HBl.out.size)⟩
    · have e : B = false := by rw [HB.out]; exact decide_eq_false hb
      subst e
      clear HB hb
      have HBl := Lib.hid (show Below w.heap.size w wr from HX.out.adv.toBelow)
      have HTz := Lib.hid HX.out.tz
      go_wp2_with (first
        | (go_at_call 17; refine (clives_any _ HTz.out).mono ?_; rintro e w7 ⟨rfl, hb7⟩)
        | fail)
      go_ret
      exact ⟨rfl, HBl.out.trans (hb7.mono HBl.out.size)⟩
end Go.Proofs.YtmefpafjcafgnaaDoor
