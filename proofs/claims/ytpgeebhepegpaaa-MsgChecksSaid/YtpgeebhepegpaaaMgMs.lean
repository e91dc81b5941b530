/- The program's Check of a message; a recall; messages at all, as each statement of layer 16 asks. The statement's Short: a message whose texts and lists are none too long. A recall; messages at all, as each statement of layer 16 asks. The program's parts: the entries that stand in a block. Rows of bytes held against each other; the program's Entries. Entries and rows of bytes that came in. Messages that came in; MsgIdle, walked. -/
import Derived.Test.YtpgeebhepegpaaaMsC
import Derived.Test.YtpgeebhepegpaaaMsS
import Derived.Test.YtpgeebhepegpaaaDrS
import Derived.StillTailTactics
import Derived.Test.YtpgeebhepegpaaaMsG
import Derived.Test.YtpgeebhepegpaaaDrJ
import Derived.Test.YtpgeebhepegpaaaDrG
import Derived.Deep.Slices
import Derived.Deep.Fields
import Derived.ChangeArms
namespace Go.Proofs.Ytpgeebhepegpaaa
open Go.ChangeShapes Go.WideShapes Go.ChangeAt Go.RowKit

set_option maxRecDepth 3000 in
theorem kw_guardM {ops : Array Oper} {rest : List Oper} {o : Oper} {a : Act} {w : World} {Q : Exit → Act → World → Prop} (hw : Region.wanted o (yielded ops a.tmps) = true) (h : wpList Try.prog ops Q ({ o with guard := none } :: rest) a w) : wpList Try.prog ops Q (o :: rest) a w := by
  unfold wpList at h ⊢
  rw [if_pos hw]
  rw [if_pos (by simp [Region.wanted])] at h
  exact h
set_option maxRecDepth 3000 in
theorem kw_loadC {ops : Array Oper} {rest : List Oper} {o : Oper} {a : Act} {w : World} {Q : Exit → Act → World → Prop} {t t' : TypeId} {C : Array Value} {s : Nat} {d : TypeDesc} (x : Operand) (ho : o.op = .load t x) (hw : Region.wanted o (yielded ops a.tmps) = true) (z : Nat) (hB : Blk w z t' C) (hx : a.eval x = .pointer (some ⟨z, 0, none⟩)) (hu : Try.prog.underlying t = some d) (hd : d.isRow = true) (hs : (Try.prog.info? t).map (·.size) = some s) (hC : C.size = s)
    (h : wpList Try.prog ops Q rest (a.put o.dst (.agg C)) w) : wpList Try.prog ops Q (o :: rest) a w := kw_guardM hw (kop_load rfl x ho z hB hx hu hd hs hC h)
noncomputable def chkM (m : Ms) : Int := if okM m = true then 0 else 4
set_option maxRecDepth 3000 in
set_option maxHeartbeats 3200000 in
theorem check16_any (m : Ms) (v : Value) (hm : WfM m) (w : World) (hE : EnR7 w v m.en) : Calls Try.prog 12 #[.agg (mc m v)] w fun e w' => e = .returned (.int .i64 (chkM m)) ∧ Adv Nul w Nul w' := by
  have HAR := Lib.hid (fun (w' : World) (a : Adv Nul w Nul w') => areright16_any m v (fldM m.ty m.kd m.er).1 (fldM_lt _ _ _) hm w' (hE.step a))
  have HFO := Lib.hid (fun w => fieldsof_any m v w)
  obtain ⟨A, hA⟩ : ∃ A, A = allB m (fldM m.ty m.kd m.er).1 := ⟨_, rfl⟩
  obtain ⟨q, hq⟩ : ∃ q, q = (fldM m.ty m.kd m.er).2 := ⟨_, rfl⟩
  obtain ⟨h, hh⟩ : ∃ q : Int, q = ((fldM m.ty m.kd m.er).1 : Int) := ⟨_, rfl⟩
  obtain ⟨r, hr⟩ : ∃ q, q = decide (ctP m.ss) := ⟨_, rfl⟩
  have HCT := Lib.hid (fun w => show Calls Try.prog 31 #[.int .u64 (m.ss : Int)] w fun e w' => e = .returned (.bool r) ∧ w = w' by rw [hr]; exact mcount_any m.ss w)
  have HOK := Lib.hid (show chkM m = if (q && decide (0 ≤ m.cl ∧ m.cl < 8) && r && A) = true then 0 else 4 by unfold chkM okM; rw [hA, hq, hr])
  rw [← hA, ← hh] at HAR
  rw [← hq, ← hh] at HFO
  obtain ⟨C, hC⟩ : ∃ C, C = mc m v := ⟨_, rfl⟩
  have HC := Lib.hid (fun (z : Nat) (w' : World) (h : Blk w' z 28 C) => (show C18 w' z m v from (show Blk w' z 28 (mc m v) by rw [← hC]; exact h).c18))
  have HCS := Lib.hid (show C.size = 18 by rw [hC]; rfl)
  rw [← hC] at HAR HFO ⊢
  obtain ⟨E, hE2⟩ : ∃ E, E = chkM m := ⟨_, rfl⟩
  rw [← hE2] at HOK ⊢
  clear hA hq hh hr hC hE2 hm hE
  have hcase : m.cl < 0 ∨ 8 ≤ m.cl ∨ (0 ≤ m.cl ∧ m.cl < 8) := by omega
  rcases hcase with g | g | ⟨g, g'⟩
  · obtain rfl : E = 4 := by rw [HOK.out, decide_eq_false (show ¬ (0 ≤ m.cl ∧ m.cl < 8) from by omega)]; simp
    cases q
    all_goals
      go_enter Try.func12, Try.ntmps12
      go_wp2_with (first
        | (refine kop_box rfl _ rfl rfl ?_; intro z w1 hz hb ha; have HA1 := Lib.hid ((Adv.refl Nul w).trans ha); have HB1 := Lib.hid hb; obtain ⟨⟨s0, s1, s2, s3, s4, s5, s6⟩, _, _⟩ := HC.out _ _ hb; clear hz hb ha)
        | (refine kop_load (t := 28) rfl _ rfl z HB1.out rfl Try.underlying28 rfl sizeM HCS.out ?_)
        | (go_at_call 30; refine (HFO.out _).mono ?_; rintro x w2 ⟨rfl, a2⟩; have HA2 := Lib.hid (HA1.out.trans a2); have HB2 := Lib.hid (HB1.out.over a2); clear s0 s1 s2 s3 s4 s5 s6; obtain ⟨⟨s0, s1, s2, s3, s4, s5, s6⟩, _, _⟩ := HC.out _ _ HB2.out; clear a2)
        | fail)
      go_ret
      exact ⟨rfl, HA2.out⟩
  · obtain rfl : E = 4 := by rw [HOK.out, decide_eq_false (show ¬ (0 ≤ m.cl ∧ m.cl < 8) from by omega)]; simp
    cases q
    all_goals
      go_enter Try.func12, Try.ntmps12
      go_wp2_with (first
        | (refine kop_box rfl _ rfl rfl ?_; intro z w1 hz hb ha; have HA1 := Lib.hid ((Adv.refl Nul w).trans ha); have HB1 := Lib.hid hb; obtain ⟨⟨s0, s1, s2, s3, s4, s5, s6⟩, _, _⟩ := HC.out _ _ hb; clear hz hb ha)
        | (refine kop_load (t := 28) rfl _ rfl z HB1.out rfl Try.underlying28 rfl sizeM HCS.out ?_)
        | (go_at_call 30; refine (HFO.out _).mono ?_; rintro x w2 ⟨rfl, a2⟩; have HA2 := Lib.hid (HA1.out.trans a2); have HB2 := Lib.hid (HB1.out.over a2); clear s0 s1 s2 s3 s4 s5 s6; obtain ⟨⟨s0, s1, s2, s3, s4, s5, s6⟩, _, _⟩ := HC.out _ _ HB2.out; clear a2)
        | fail)
      all_goals
        go_ret
        exact ⟨rfl, HA2.out⟩
  · have HOK2 := Lib.hid (show E = if (q && r && A) = true then 0 else 4 by rw [HOK.out, decide_eq_true (show 0 ≤ m.cl ∧ m.cl < 8 from ⟨g, g'⟩), Bool.and_true])
    clear HOK
    cases q with
    | false =>
      obtain rfl : E = 4 := HOK2.out
      go_enter Try.func12, Try.ntmps12
      go_wp2_with (first
        | (refine kop_box rfl _ rfl rfl ?_; intro z w1 hz hb ha; have HA1 := Lib.hid ((Adv.refl Nul w).trans ha); have HB1 := Lib.hid hb; obtain ⟨⟨s0, s1, s2, s3, s4, s5, s6⟩, _, _⟩ := HC.out _ _ hb; clear hz hb ha)
        | (refine kop_load (t := 28) rfl _ rfl z HB1.out rfl Try.underlying28 rfl sizeM HCS.out ?_)
        | (go_at_call 30; refine (HFO.out _).mono ?_; rintro x w2 ⟨rfl, a2⟩; have HA2 := Lib.hid (HA1.out.trans a2); have HB2 := Lib.hid (HB1.out.over a2); clear s0 s1 s2 s3 s4 s5 s6; obtain ⟨⟨s0, s1, s2, s3, s4, s5, s6⟩, _, _⟩ := HC.out _ _ HB2.out; clear a2)
        | fail)
      go_ret
      exact ⟨rfl, HA2.out⟩
    | true =>
      cases r with
      | false =>
        obtain rfl : E = 4 := HOK2.out
        go_enter Try.func12, Try.ntmps12
        go_wp2_with (first
          | (refine kop_box rfl _ rfl rfl ?_; intro z w1 hz hb ha; have HA1 := Lib.hid ((Adv.refl Nul w).trans ha); have HB1 := Lib.hid hb; obtain ⟨⟨s0, s1, s2, s3, s4, s5, s6⟩, _, _⟩ := HC.out _ _ hb; clear hz hb ha)
          | (refine kop_load (t := 28) rfl _ rfl z HB1.out rfl Try.underlying28 rfl sizeM HCS.out ?_)
          | (go_at_call 30; refine (HFO.out _).mono ?_; rintro x w2 ⟨rfl, a2⟩; have HA2 := Lib.hid (HA1.out.trans a2); have HB2 := Lib.hid (HB1.out.over a2); clear s0 s1 s2 s3 s4 s5 s6; obtain ⟨⟨s0, s1, s2, s3, s4, s5, s6⟩, _, _⟩ := HC.out _ _ HB2.out; clear a2)
          | (go_at_call 31; refine (HCT.out _).mono ?_; rintro x w3 ⟨rfl, rfl⟩)
          | fail)
        go_ret
        exact ⟨rfl, HA2.out⟩
      | true =>
        have HOK3 := Lib.hid (show E = if A = true then 0 else 4 from HOK2.out)
        clear HOK2
        cases A
        all_goals
          have hek := HOK3.out
          first
          | (replace hek : E = 4 := hek)
          | (replace hek : E = 0 := hek)
          subst hek
          go_enter Try.func12, Try.ntmps12
          go_wp2_with (first
            | (refine kop_box rfl _ rfl rfl ?_; intro z w1 hz hb ha; have HA1 := Lib.hid ((Adv.refl Nul w).trans ha); have HB1 := Lib.hid hb; obtain ⟨⟨s0, s1, s2, s3, s4, s5, s6⟩, _, _⟩ := HC.out _ _ hb; clear hz hb ha)
            | (refine kop_load (t := 28) rfl _ rfl z HB1.out rfl Try.underlying28 rfl sizeM HCS.out ?_)
            | (go_at_call 30; refine (HFO.out _).mono ?_; rintro x w2 ⟨rfl, a2⟩; have HA2 := Lib.hid (HA1.out.trans a2); have HB2 := Lib.hid (HB1.out.over a2); clear s0 s1 s2 s3 s4 s5 s6; obtain ⟨⟨s0, s1, s2, s3, s4, s5, s6⟩, _, _⟩ := HC.out _ _ HB2.out; clear a2)
            | (go_at_call 31; refine (HCT.out _).mono ?_; rintro x w3 ⟨rfl, rfl⟩)
            | (refine kw_loadC (t := 28) _ rfl (by simp [Region.wanted, yielded, g, g']) z HB2.out rfl Try.underlying28 rfl sizeM HCS.out ?_)
            | (go_at_call 32; refine (HAR.out _ HA2.out).mono ?_; rintro x w4 ⟨rfl, a4⟩; have HA4 := Lib.hid (HA2.out.trans a4); clear a4)
            | fail)
          go_ret
          exact ⟨rfl, HA4.out⟩
end Go.Proofs.Ytpgeebhepegpaaa
namespace Go.Proofs.Ytpgeebhepegpaaa
open Go.ChangeShapes Go.WideShapes Go.ChangeAt Go.RowKit

def cut70 (s : ByteArray) : ByteArray := if 70 < s.size then s.extract 0 70 else s
set_option maxRecDepth 3000 in
theorem cut70_size (s : ByteArray) : (cut70 s).size ≤ 70 := by
  unfold cut70
  split
  · simp only [ByteArray.size_extract]; omega
  · omega
def shM (m : Ms) : Ms := { m with nm := cut20 m.nm, ot := cut20 m.ot, da := cut70 m.da, en := fewL 26 m.en }
/-- numbers that may be, sizes of any -/
structure WfAm (m : Ms) : Prop where
  ss : m.ss < 18446744073709551616
  sq : m.sq < 18446744073709551616
  bo : m.bo < 18446744073709551616
  ve : m.ve < 18446744073709551616
  nm : m.nm.size ≤ maxLen
  ot : m.ot.size ≤ maxLen
  da : m.da.size ≤ maxLen
set_option maxRecDepth 3000 in
theorem WfAm.short {m : Ms} (h : WfAm m) : WfM (shM m) := ⟨h.ss, h.sq, h.bo, h.ve, Nat.le_trans (cut20_size _) (by decide), Nat.le_trans (cut20_size _) (by decide), Nat.le_trans (cut70_size _) (by decide), by show (fewL 26 m.en).length ≤ 1000; rw [fewL_length]; omega⟩
set_option maxRecDepth 3000 in
theorem WfM.any {m : Ms} (h : WfM m) : WfAm m := ⟨h.ss, h.sq, h.bo, h.ve, by have := h.nm; unfold maxLen; omega, by have := h.ot; unfold maxLen; omega, by have := h.da; unfold maxLen; omega⟩
set_option maxRecDepth 3000 in
theorem cut20_id {s : ByteArray} (h : s.size ≤ 20) : cut20 s = s := if_neg (by omega)
set_option maxRecDepth 3000 in
theorem cut70_id {s : ByteArray} (h : s.size ≤ 70) : cut70 s = s := if_neg (by omega)
set_option maxRecDepth 3000 in
theorem cutE7_twice (e : En) : cutE7 (cutE7 e) = cutE7 e := by
  unfold cutE7
  simp only [cut20_id (cut20_size e.s)]
set_option maxRecDepth 3000 in
theorem shM_twice (m : Ms) : shM (shM m) = shM m := by
  have e1 : fewL 26 (fewL 26 m.en) = fewL 26 m.en := by
    unfold fewL
    rw [← List.map_take, List.take_take, List.map_map, Nat.min_self]
    exact List.map_congr_left fun e _ => cutE7_twice e
  unfold shM
  simp only [cut20_id (cut20_size _), cut70_id (cut70_size _), e1]
set_option maxRecDepth 3000 in
theorem EnO.fromM {w w0 w1 : World} {l : List En} {v : Value} (h : EnO w0 l v w1) (ha : Adv Nul w Nul w0) : EnO w l v w1 := by
  obtain ⟨F, h1, h2⟩ := h.ex
  exact ⟨⟨F, h1, ha.trans h2⟩, h.sz⟩
set_option maxRecDepth 3000 in
theorem EnO.far1 {w wr w' : World} {l : List En} {v : Value} {u : Nat} (h : EnO w l v wr) (hu : w.heap.size ≤ u) (hn : ∀ j, v.ownBlock = some j → j ≠ u) (k : Adv (One u) wr (One u) w') : EnO w l v w' := by
  obtain ⟨F, h1, h2⟩ := h.ex
  refine ⟨⟨fun j => v.ownBlock = some j, ⟨own_keep h1.own (fun j hj => k.block j (h1.bd j (h1.inF j hj)) (fun e => hn j hj e)), fun j hj => hj, fun j hj => Nat.lt_of_lt_of_le (h1.bd j (h1.inF j hj)) k.size⟩, ?_⟩, h.sz⟩
  exact ⟨k.os.trans h2.os, k.tape.trans h2.tape, k.output.trans h2.output, Nat.le_trans h2.size k.size, fun i hi hx => (k.block i (Nat.lt_of_lt_of_le hi h2.size) (fun e => by unfold One at e; omega)).trans (h2.block i hi hx), fun j hj => (h2.into j (h1.inF j hj)).elim (fun x => x.elim) .inr⟩
set_option maxRecDepth 3000 in
theorem EnO.new_ {V wr : World} {l : List En} {v : Value} (h : EnO V l v wr) : ∀ j, v.ownBlock = some j → V.heap.size ≤ j := fun j hj => by
  obtain ⟨F, h1, h2⟩ := h.ex
  exact (h2.into j (h1.inF j hj)).elim (fun x => x.elim) id
set_option maxRecDepth 3000 in
theorem EnO.putz {w V wr w' : World} {l : List En} {v : Value} {z : Nat} (h : EnO V l v wr) (hV : Adv Nul w Nul V) (hz : w.heap.size ≤ z) (hzV : z < V.heap.size) (k : Adv (One z) wr (One z) w') : EnO w l v w' := by
  obtain ⟨F, h1, h2⟩ := h.ex
  have hF : ∀ j, F j → V.heap.size ≤ j := fun j hj => (h2.into j hj).elim (fun x => x.elim) id
  have hB : ∀ j, F j → w'.heap[j]? = wr.heap[j]? := fun j hj => k.block j (h1.bd j hj) (fun e => by have := hF j hj; unfold One at e; omega)
  refine ⟨⟨F, ⟨own_keep h1.own (fun j hj => hB j (h1.inF j hj)), h1.inF, fun j hj => Nat.lt_of_lt_of_le (h1.bd j hj) k.size⟩, ?_⟩, h.sz⟩
  have h3 := hV.trans h2
  exact ⟨k.os.trans h3.os, k.tape.trans h3.tape, k.output.trans h3.output, Nat.le_trans h3.size k.size, fun i hi hn => (k.block i (Nat.lt_of_lt_of_le hi h3.size) (fun e => by unfold One at e; omega)).trans (h3.block i hi hn), fun j hj => .inr (Nat.le_trans hV.size (hF j hj))⟩
def ShR (w : World) (m : Ms) (e : Ending) (w' : World) : Prop := ∃ v, e = .returned (.agg (mc (shM m) v)) ∧ EnO w (fewL 26 m.en) v w'
set_option maxRecDepth 3000 in
set_option maxHeartbeats 6400000 in
theorem short16_any (m : Ms) (v : Value) (hm : WfAm m) (w : World) (hE : EnR7 w v m.en) : Calls Try.prog 11 #[.agg (mc m v)] w (ShR w m) := by
  obtain ⟨A, N, c, rfl, hN, hcm⟩ : ∃ A N c, v = .slice A N c ∧ N = m.en.length ∧ c ≤ maxLen ∧ N ≤ c := by
    obtain ⟨A, c, e, h1, h2⟩ := hE.form
    exact ⟨A, _, c, e, rfl, h2, h1⟩
  have hbig : (N : Int) ≤ 9223372036854775807 := by unfold maxLen at hcm; omega
  have HI := Lib.hid infoM
  have HS20 := Lib.hid (fun (w : World) => (short20 m.nm w hm.nm).mono fun e w' h => (show e = .returned (.string (cut20 m.nm)) ∧ w' = w from ⟨h.1, h.2.symm⟩))
  have HO20 := Lib.hid (fun (w : World) => (short20 m.ot w hm.ot).mono fun e w' h => (show e = .returned (.string (cut20 m.ot)) ∧ w' = w from ⟨h.1, h.2.symm⟩))
  have HS70 := Lib.hid (fun (w : World) => (short_any m.da 70 w (by decide) hm.da).mono fun e w' h => (show e = .returned (.string (cut70 m.da)) ∧ w' = w from ⟨h.1, h.2.symm⟩))
  obtain ⟨C, hC⟩ : ∃ C, C = mc m (.slice A N c) := ⟨_, rfl⟩
  have HC := Lib.hid hC
  obtain ⟨Z, hZ⟩ : ∃ C, C = mc ms0 nilV := ⟨_, rfl⟩
  have HZS := Lib.hid (show Z.size = 18 by rw [hZ]; rfl)
  rw [← hZ] at HI
  rw [← hC]
  have HEN := Lib.hid hE
  have HN := Lib.hid hN
  clear hC hZ hE hN hcm hm
  go_enter Try.func11, Try.ntmps11
  go_upto_region 1 with (first
    | (refine kop_box rfl _ rfl rfl ?_; intro z w1 hz hb ha; have HA1 := Lib.hid ((Adv.refl Nul w).trans ha); have HB1 := Lib.hid hb; have HZ1 := Lib.hid hz; clear hz hb ha)
    | (refine kop_alloc rfl rfl HI.out ?_; intro u w2 hz hb ha; have HU2 := Lib.hid (Nat.le_trans HA1.out.size hz); have HBU := Lib.hid hb; have HA2 := Lib.hid (HA1.out.trans ha); have HB2 := Lib.hid (HB1.out.over ha); have HZU := Lib.hid (show z ≠ u from fun e => by have := HB1.out.lt; omega); clear hz hb ha)
    | fail)
  have HBz := Lib.hid (show Blk w2 z 28 (mc m (.slice A N c)) by rw [← HC.out]; exact HB2.out)
  obtain ⟨⟨s0, s1, s2, s3, s4, s5, s6⟩, ⟨s7, s8, s9, s10⟩, ⟨s11, s12, s13, s14, s15, s16, s17⟩⟩ := HBz.out.c18
  obtain ⟨V, hV⟩ : ∃ V, V = ((w2.drew.setCell ⟨z, 11, none⟩ (.string (cut20 m.nm))).setCell ⟨z, 12, none⟩ (.string (cut20 m.ot))).setCell ⟨z, 15, none⟩ (.string (cut70 m.da)) := ⟨_, rfl⟩
  have HBV := Lib.hid (show Blk V z 28 (mc { m with nm := cut20 m.nm, ot := cut20 m.ot, da := cut70 m.da } (.slice A N c)) by
    rw [hV]
    exact ((show Blk w2.drew z 28 (mc m (.slice A N c)) from HBz.out).set_ 11 (.string (cut20 m.nm)) |>.set_ 12 (.string (cut20 m.ot)) |>.set_ 15 (.string (cut70 m.da))))
  have HUV := Lib.hid (show Blk V u 28 Z by
    rw [hV]
    exact (((show Blk w2.drew u 28 Z from HBU.out).far (p := ⟨z, 11, none⟩) HZU.out.symm _).far (p := ⟨z, 12, none⟩) HZU.out.symm _).far (p := ⟨z, 15, none⟩) HZU.out.symm _)
  have HAV := Lib.hid (show Adv Nul w Nul V by
    rw [hV]
    exact ((HA2.out.drew.setCell (p := ⟨z, 11, none⟩) (.inr HZ1.out) _).setCell (p := ⟨z, 12, none⟩) (.inr HZ1.out) _).setCell (p := ⟨z, 15, none⟩) (.inr HZ1.out) _)
  have HV := Lib.hid hV
  have f11 : w2.frozen? ⟨z, 11, none⟩ = false := HBz.out.frozen 11
  have f12 : w2.frozen? ⟨z, 12, none⟩ = false := HBz.out.frozen 12
  have f15 : w2.frozen? ⟨z, 15, none⟩ = false := HBz.out.frozen 15
  clear hV s0 s1 s2 s3 s4 s5 s6 s7 s8 s9 s10 s13 s14 s16 s17
  try simp only [Act.put, sA, sB, sC]
  go_cut [14] (fun t wx => t = .string (cut70 m.da) ∧ wx = V)
  case first =>
    as_aux_lemma =>
    refine rstart (S := (fun _ => True)) (by first | exact True.intro) (fun hH => ?_)
    refine tk (i := 0) (oi := ⟨some 6, .fieldAddr 28 (.tmp 1) 9, 0, "law.go:27", #[], none⟩) hH.out (by rintro w s0; go_simp <;> with_reducible rfl) ?_
    simp only [Act.put, sA, sB, sC]
    refine tk (i := 3) (oi := ⟨some 9, .fieldAddr 28 (.tmp 1) 10, 0, "law.go:27", #[], none⟩) hH.out (by rintro w s0; go_simp <;> with_reducible rfl) ?_
    simp only [Act.put, sA, sB, sC]
    refine tk (i := 6) (oi := ⟨some 12, .fieldAddr 28 (.tmp 1) 13, 0, "law.go:27", #[], none⟩) hH.out (by rintro w s0; go_simp <;> with_reducible rfl) ?_
    simp only [Act.put, sA, sB, sC]
    refine wpAnyH_ready (rs := [1, 4, 7]) (by kernel_rfl) (by simp) ?_
    refine AllReadyH.cons (o := ⟨some 7, .load 9 (.tmp 6), 9, "law.go:27", #[⟨0, .data⟩], none⟩) rfl (fun K hK => ?_) (AllReadyH.cons (o := ⟨some 10, .load 9 (.tmp 9), 9, "law.go:27", #[⟨3, .data⟩], none⟩) rfl (fun K hK => ?_) (AllReadyH.cons (o := ⟨some 13, .load 9 (.tmp 12), 9, "law.go:27", #[⟨6, .data⟩], none⟩) rfl (fun K hK => ?_) (AllReadyH.nil)))
    · go_simp
      refine hK.out _ _ (by first | exact True.intro) (fun hHeld => ?_)
      replace hH := Lib.hid hHeld
      clear hK K hHeld
      try simp only [Act.put, sA, sB, sC]
      refine wpAnyH_ready (rs := [2, 4, 7]) (by kernel_rfl) (by simp) ?_
      refine AllReadyH.cons (o := ⟨some 8, .call ⟨.value (.func 29), #[.tmp 7, .const (Go.Value.int Go.IntKind.i64 20)], #[9, 3]⟩, 9, "law.go:27", #[⟨1, .data⟩], none⟩) rfl (fun K hK => ?_) (AllReadyH.cons (o := ⟨some 10, .load 9 (.tmp 9), 9, "law.go:27", #[⟨3, .data⟩], none⟩) rfl (fun K hK => ?_) (AllReadyH.cons (o := ⟨some 13, .load 9 (.tmp 12), 9, "law.go:27", #[⟨6, .data⟩], none⟩) rfl (fun K hK => ?_) (AllReadyH.nil)))
      · go_simp
        refine (HS20.out _).mono ?_
        rintro r w11 ⟨rfl, rfl⟩
        go_wp2_with fail
        refine hK.out _ _ (by first | exact True.intro) (fun hHeld => ?_)
        replace hH := Lib.hid hHeld
        clear hK K hHeld
        try simp only [Act.put, sA, sB, sC]
        refine wpAnyH_ready (rs := [4, 7]) (by kernel_rfl) (by simp) ?_
        refine AllReadyH.cons (o := ⟨some 10, .load 9 (.tmp 9), 9, "law.go:27", #[⟨3, .data⟩], none⟩) rfl (fun K hK => ?_) (AllReadyH.cons (o := ⟨some 13, .load 9 (.tmp 12), 9, "law.go:27", #[⟨6, .data⟩], none⟩) rfl (fun K hK => ?_) (AllReadyH.nil))
        · go_simp
          refine hK.out _ _ (by first | exact True.intro) (fun hHeld => ?_)
          replace hH := Lib.hid hHeld
          clear hK K hHeld
          try simp only [Act.put, sA, sB, sC]
          refine wpAnyH_ready (rs := [5, 7]) (by kernel_rfl) (by simp) ?_
          refine AllReadyH.cons (o := ⟨some 11, .call ⟨.value (.func 29), #[.tmp 10, .const (Go.Value.int Go.IntKind.i64 20)], #[9, 3]⟩, 9, "law.go:27", #[⟨4, .data⟩, ⟨2, .chain⟩], none⟩) rfl (fun K hK => ?_) (AllReadyH.cons (o := ⟨some 13, .load 9 (.tmp 12), 9, "law.go:27", #[⟨6, .data⟩], none⟩) rfl (fun K hK => ?_) (AllReadyH.nil))
          · go_simp
            refine (HO20.out _).mono ?_
            rintro r w11 ⟨rfl, rfl⟩
            go_wp2_with fail
            refine hK.out _ _ (by first | exact True.intro) (fun hHeld => ?_)
            replace hH := Lib.hid hHeld
            clear hK K hHeld
            try simp only [Act.put, sA, sB, sC]
            refine rdy (i := 7) (oi := ⟨some 13, .load 9 (.tmp 12), 9, "law.go:27", #[⟨6, .data⟩], none⟩) (fun K hK => ?_)
            go_simp
            refine hK.out _ _ (by first | exact True.intro) (fun hHeld => ?_)
            replace hH := Lib.hid hHeld
            clear hK K hHeld
            try simp only [Act.put, sA, sB, sC]
            refine tk (i := 9) (oi := ⟨some 15, .fieldAddr 28 (.tmp 1) 9, 0, "law.go:27", #[⟨0, .phase⟩, ⟨1, .phase⟩, ⟨2, .phase⟩, ⟨3, .phase⟩, ⟨4, .phase⟩, { on := 5, ground := Go.Ground.textOnly Go.Departure.lateStoresUnsure }, ⟨6, .phase⟩, ⟨7, .phase⟩, { on := 8, ground := Go.Ground.textOnly Go.Departure.lateStoresUnsure }], none⟩) hH.out (by rintro w s0; go_simp <;> with_reducible rfl) ?_
            simp only [Act.put, sA, sB, sC]
            refine rdy (i := 8) (oi := ⟨some 14, .call ⟨.value (.func 29), #[.tmp 13, .const (Go.Value.int Go.IntKind.i64 70)], #[9, 3]⟩, 9, "law.go:27", #[⟨7, .data⟩, ⟨5, .chain⟩], none⟩) (fun K hK => ?_)
            go_simp
            refine (HS70.out _).mono ?_
            rintro r w11 ⟨rfl, rfl⟩
            go_wp2_with fail
            refine hK.out _ _ (by first | exact True.intro) (fun hHeld => ?_)
            replace hH := Lib.hid hHeld
            clear hK K hHeld
            try simp only [Act.put, sA, sB, sC]
            refine rdy (i := 10) (oi := ⟨none, .store 9 (.tmp 15) (.tmp 8), 0, "law.go:27", #[⟨9, .data⟩, ⟨2, .data⟩, ⟨8, .chain⟩, ⟨0, .phase⟩, ⟨1, .phase⟩, ⟨2, .phase⟩, ⟨3, .phase⟩, ⟨4, .phase⟩, { on := 5, ground := Go.Ground.textOnly Go.Departure.lateStoresUnsure }, ⟨6, .phase⟩, ⟨7, .phase⟩, { on := 8, ground := Go.Ground.textOnly Go.Departure.lateStoresUnsure }], none⟩) (fun K hK => ?_)
            go_simp
            refine hK.out _ _ (by first | exact True.intro) (fun hHeld => ?_)
            replace hH := Lib.hid hHeld
            clear hK K hHeld
            try simp only [Act.put]
            refine tk (i := 11) (oi := ⟨some 16, .fieldAddr 28 (.tmp 1) 10, 0, "law.go:27", #[⟨0, .phase⟩, ⟨1, .phase⟩, ⟨2, .phase⟩, ⟨3, .phase⟩, ⟨4, .phase⟩, ⟨5, .phase⟩, ⟨6, .phase⟩, ⟨7, .phase⟩, { on := 8, ground := Go.Ground.textOnly Go.Departure.lateStoresUnsure }, ⟨9, .phase⟩, ⟨10, .phase⟩], none⟩) hH.out (by rintro w s0; go_simp <;> with_reducible rfl) ?_
            simp only [Act.put, sA, sB, sC]
            refine rdy (i := 12) (oi := ⟨none, .store 9 (.tmp 16) (.tmp 11), 0, "law.go:27", #[⟨11, .data⟩, ⟨5, .data⟩, ⟨10, .chain⟩, ⟨0, .phase⟩, ⟨1, .phase⟩, ⟨2, .phase⟩, ⟨3, .phase⟩, ⟨4, .phase⟩, ⟨5, .phase⟩, ⟨6, .phase⟩, ⟨7, .phase⟩, { on := 8, ground := Go.Ground.textOnly Go.Departure.lateStoresUnsure }, ⟨9, .phase⟩, ⟨10, .phase⟩], none⟩) (fun K hK => ?_)
            go_simp
            refine hK.out _ _ (by first | exact True.intro) (fun hHeld => ?_)
            replace hH := Lib.hid hHeld
            clear hK K hHeld
            try simp only [Act.put]
            refine tk (i := 13) (oi := ⟨some 17, .fieldAddr 28 (.tmp 1) 13, 0, "law.go:27", #[⟨0, .phase⟩, ⟨1, .phase⟩, ⟨2, .phase⟩, ⟨3, .phase⟩, ⟨4, .phase⟩, ⟨5, .phase⟩, ⟨6, .phase⟩, ⟨7, .phase⟩, ⟨8, .phase⟩, ⟨9, .phase⟩, ⟨10, .phase⟩, ⟨11, .phase⟩, ⟨12, .phase⟩], none⟩) hH.out (by rintro w s0; go_simp <;> with_reducible rfl) ?_
            simp only [Act.put, sA, sB, sC]
            refine rdy (i := 14) (oi := ⟨none, .store 9 (.tmp 17) (.tmp 14), 0, "law.go:27", #[⟨13, .data⟩, ⟨8, .data⟩, ⟨12, .chain⟩, ⟨0, .phase⟩, ⟨1, .phase⟩, ⟨2, .phase⟩, ⟨3, .phase⟩, ⟨4, .phase⟩, ⟨5, .phase⟩, ⟨6, .phase⟩, ⟨7, .phase⟩, ⟨8, .phase⟩, ⟨9, .phase⟩, ⟨10, .phase⟩, ⟨11, .phase⟩, ⟨12, .phase⟩], none⟩) (fun K hK => ?_)
            go_simp
            refine hK.out _ _ (by first | exact True.intro) (fun hHeld => ?_)
            replace hH := Lib.hid hHeld
            clear hK K hHeld
            try simp only [Act.put]
            refine wpAnyH_done (by kernel_rfl) ?_ _
            go_wp2_with fail
            go_meet
            exact ⟨rfl, HV.out.symm⟩
          · go_simp
            refine hK.out _ _ (by first | exact True.intro) (fun hHeld => ?_)
            replace hH := Lib.hid hHeld
            clear hK K hHeld
            try simp only [Act.put, sA, sB, sC]
            refine tk (i := 9) (oi := ⟨some 15, .fieldAddr 28 (.tmp 1) 9, 0, "law.go:27", #[⟨0, .phase⟩, ⟨1, .phase⟩, ⟨2, .phase⟩, ⟨3, .phase⟩, ⟨4, .phase⟩, { on := 5, ground := Go.Ground.textOnly Go.Departure.lateStoresUnsure }, ⟨6, .phase⟩, ⟨7, .phase⟩, { on := 8, ground := Go.Ground.textOnly Go.Departure.lateStoresUnsure }], none⟩) hH.out (by rintro w s0; go_simp <;> with_reducible rfl) ?_
            simp only [Act.put, sA, sB, sC]
            refine rdy (i := 5) (oi := ⟨some 11, .call ⟨.value (.func 29), #[.tmp 10, .const (Go.Value.int Go.IntKind.i64 20)], #[9, 3]⟩, 9, "law.go:27", #[⟨4, .data⟩, ⟨2, .chain⟩], none⟩) (fun K hK => ?_)
            go_simp
            refine (HO20.out _).mono ?_
            rintro r w11 ⟨rfl, rfl⟩
            go_wp2_with fail
            refine hK.out _ _ (by first | exact True.intro) (fun hHeld => ?_)
            replace hH := Lib.hid hHeld
            clear hK K hHeld
            try simp only [Act.put, sA, sB, sC]
            refine rdy (i := 8) (oi := ⟨some 14, .call ⟨.value (.func 29), #[.tmp 13, .const (Go.Value.int Go.IntKind.i64 70)], #[9, 3]⟩, 9, "law.go:27", #[⟨7, .data⟩, ⟨5, .chain⟩], none⟩) (fun K hK => ?_)
            go_simp
            refine (HS70.out _).mono ?_
            rintro r w11 ⟨rfl, rfl⟩
            go_wp2_with fail
            refine hK.out _ _ (by first | exact True.intro) (fun hHeld => ?_)
            replace hH := Lib.hid hHeld
            clear hK K hHeld
            try simp only [Act.put, sA, sB, sC]
            refine rdy (i := 10) (oi := ⟨none, .store 9 (.tmp 15) (.tmp 8), 0, "law.go:27", #[⟨9, .data⟩, ⟨2, .data⟩, ⟨8, .chain⟩, ⟨0, .phase⟩, ⟨1, .phase⟩, ⟨2, .phase⟩, ⟨3, .phase⟩, ⟨4, .phase⟩, { on := 5, ground := Go.Ground.textOnly Go.Departure.lateStoresUnsure }, ⟨6, .phase⟩, ⟨7, .phase⟩, { on := 8, ground := Go.Ground.textOnly Go.Departure.lateStoresUnsure }], none⟩) (fun K hK => ?_)
            go_simp
            refine hK.out _ _ (by first | exact True.intro) (fun hHeld => ?_)
            replace hH := Lib.hid hHeld
            clear hK K hHeld
            try simp only [Act.put]
            refine tk (i := 11) (oi := ⟨some 16, .fieldAddr 28 (.tmp 1) 10, 0, "law.go:27", #[⟨0, .phase⟩, ⟨1, .phase⟩, ⟨2, .phase⟩, ⟨3, .phase⟩, ⟨4, .phase⟩, ⟨5, .phase⟩, ⟨6, .phase⟩, ⟨7, .phase⟩, { on := 8, ground := Go.Ground.textOnly Go.Departure.lateStoresUnsure }, ⟨9, .phase⟩, ⟨10, .phase⟩], none⟩) hH.out (by rintro w s0; go_simp <;> with_reducible rfl) ?_
            simp only [Act.put, sA, sB, sC]
            refine rdy (i := 12) (oi := ⟨none, .store 9 (.tmp 16) (.tmp 11), 0, "law.go:27", #[⟨11, .data⟩, ⟨5, .data⟩, ⟨10, .chain⟩, ⟨0, .phase⟩, ⟨1, .phase⟩, ⟨2, .phase⟩, ⟨3, .phase⟩, ⟨4, .phase⟩, ⟨5, .phase⟩, ⟨6, .phase⟩, ⟨7, .phase⟩, { on := 8, ground := Go.Ground.textOnly Go.Departure.lateStoresUnsure }, ⟨9, .phase⟩, ⟨10, .phase⟩], none⟩) (fun K hK => ?_)
            go_simp
            refine hK.out _ _ (by first | exact True.intro) (fun hHeld => ?_)
            replace hH := Lib.hid hHeld
            clear hK K hHeld
            try simp only [Act.put]
            refine tk (i := 13) (oi := ⟨some 17, .fieldAddr 28 (.tmp 1) 13, 0, "law.go:27", #[⟨0, .phase⟩, ⟨1, .phase⟩, ⟨2, .phase⟩, ⟨3, .phase⟩, ⟨4, .phase⟩, ⟨5, .phase⟩, ⟨6, .phase⟩, ⟨7, .phase⟩, ⟨8, .phase⟩, ⟨9, .phase⟩, ⟨10, .phase⟩, ⟨11, .phase⟩, ⟨12, .phase⟩], none⟩) hH.out (by rintro w s0; go_simp <;> with_reducible rfl) ?_
            simp only [Act.put, sA, sB, sC]
            refine rdy (i := 14) (oi := ⟨none, .store 9 (.tmp 17) (.tmp 14), 0, "law.go:27", #[⟨13, .data⟩, ⟨8, .data⟩, ⟨12, .chain⟩, ⟨0, .phase⟩, ⟨1, .phase⟩, ⟨2, .phase⟩, ⟨3, .phase⟩, ⟨4, .phase⟩, ⟨5, .phase⟩, ⟨6, .phase⟩, ⟨7, .phase⟩, ⟨8, .phase⟩, ⟨9, .phase⟩, ⟨10, .phase⟩, ⟨11, .phase⟩, ⟨12, .phase⟩], none⟩) (fun K hK => ?_)
            go_simp
            refine hK.out _ _ (by first | exact True.intro) (fun hHeld => ?_)
            replace hH := Lib.hid hHeld
            clear hK K hHeld
            try simp only [Act.put]
            refine wpAnyH_done (by kernel_rfl) ?_ _
            go_wp2_with fail
            go_meet
            exact ⟨rfl, HV.out.symm⟩
        · go_simp
          refine hK.out _ _ (by first | exact True.intro) (fun hHeld => ?_)
          replace hH := Lib.hid hHeld
          clear hK K hHeld
          try simp only [Act.put, sA, sB, sC]
          refine rdy (i := 4) (oi := ⟨some 10, .load 9 (.tmp 9), 9, "law.go:27", #[⟨3, .data⟩], none⟩) (fun K hK => ?_)
          go_simp
          refine hK.out _ _ (by first | exact True.intro) (fun hHeld => ?_)
          replace hH := Lib.hid hHeld
          clear hK K hHeld
          try simp only [Act.put, sA, sB, sC]
          refine tk (i := 9) (oi := ⟨some 15, .fieldAddr 28 (.tmp 1) 9, 0, "law.go:27", #[⟨0, .phase⟩, ⟨1, .phase⟩, ⟨2, .phase⟩, ⟨3, .phase⟩, ⟨4, .phase⟩, { on := 5, ground := Go.Ground.textOnly Go.Departure.lateStoresUnsure }, ⟨6, .phase⟩, ⟨7, .phase⟩, { on := 8, ground := Go.Ground.textOnly Go.Departure.lateStoresUnsure }], none⟩) hH.out (by rintro w s0; go_simp <;> with_reducible rfl) ?_
          simp only [Act.put, sA, sB, sC]
          refine rdy (i := 5) (oi := ⟨some 11, .call ⟨.value (.func 29), #[.tmp 10, .const (Go.Value.int Go.IntKind.i64 20)], #[9, 3]⟩, 9, "law.go:27", #[⟨4, .data⟩, ⟨2, .chain⟩], none⟩) (fun K hK => ?_)
          go_simp
          refine (HO20.out _).mono ?_
          rintro r w11 ⟨rfl, rfl⟩
          go_wp2_with fail
          refine hK.out _ _ (by first | exact True.intro) (fun hHeld => ?_)
          replace hH := Lib.hid hHeld
          clear hK K hHeld
          try simp only [Act.put, sA, sB, sC]
          refine rdy (i := 8) (oi := ⟨some 14, .call ⟨.value (.func 29), #[.tmp 13, .const (Go.Value.int Go.IntKind.i64 70)], #[9, 3]⟩, 9, "law.go:27", #[⟨7, .data⟩, ⟨5, .chain⟩], none⟩) (fun K hK => ?_)
          go_simp
          refine (HS70.out _).mono ?_
          rintro r w11 ⟨rfl, rfl⟩
          go_wp2_with fail
          refine hK.out _ _ (by first | exact True.intro) (fun hHeld => ?_)
          replace hH := Lib.hid hHeld
          clear hK K hHeld
          try simp only [Act.put, sA, sB, sC]
          refine rdy (i := 10) (oi := ⟨none, .store 9 (.tmp 15) (.tmp 8), 0, "law.go:27", #[⟨9, .data⟩, ⟨2, .data⟩, ⟨8, .chain⟩, ⟨0, .phase⟩, ⟨1, .phase⟩, ⟨2, .phase⟩, ⟨3, .phase⟩, ⟨4, .phase⟩, { on := 5, ground := Go.Ground.textOnly Go.Departure.lateStoresUnsure }, ⟨6, .phase⟩, ⟨7, .phase⟩, { on := 8, ground := Go.Ground.textOnly Go.Departure.lateStoresUnsure }], none⟩) (fun K hK => ?_)
          go_simp
          refine hK.out _ _ (by first | exact True.intro) (fun hHeld => ?_)
          replace hH := Lib.hid hHeld
          clear hK K hHeld
          try simp only [Act.put]
          refine tk (i := 11) (oi := ⟨some 16, .fieldAddr 28 (.tmp 1) 10, 0, "law.go:27", #[⟨0, .phase⟩, ⟨1, .phase⟩, ⟨2, .phase⟩, ⟨3, .phase⟩, ⟨4, .phase⟩, ⟨5, .phase⟩, ⟨6, .phase⟩, ⟨7, .phase⟩, { on := 8, ground := Go.Ground.textOnly Go.Departure.lateStoresUnsure }, ⟨9, .phase⟩, ⟨10, .phase⟩], none⟩) hH.out (by rintro w s0; go_simp <;> with_reducible rfl) ?_
          simp only [Act.put, sA, sB, sC]
          refine rdy (i := 12) (oi := ⟨none, .store 9 (.tmp 16) (.tmp 11), 0, "law.go:27", #[⟨11, .data⟩, ⟨5, .data⟩, ⟨10, .chain⟩, ⟨0, .phase⟩, ⟨1, .phase⟩, ⟨2, .phase⟩, ⟨3, .phase⟩, ⟨4, .phase⟩, ⟨5, .phase⟩, ⟨6, .phase⟩, ⟨7, .phase⟩, { on := 8, ground := Go.Ground.textOnly Go.Departure.lateStoresUnsure }, ⟨9, .phase⟩, ⟨10, .phase⟩], none⟩) (fun K hK => ?_)
          go_simp
          refine hK.out _ _ (by first | exact True.intro) (fun hHeld => ?_)
          replace hH := Lib.hid hHeld
          clear hK K hHeld
          try simp only [Act.put]
          refine tk (i := 13) (oi := ⟨some 17, .fieldAddr 28 (.tmp 1) 13, 0, "law.go:27", #[⟨0, .phase⟩, ⟨1, .phase⟩, ⟨2, .phase⟩, ⟨3, .phase⟩, ⟨4, .phase⟩, ⟨5, .phase⟩, ⟨6, .phase⟩, ⟨7, .phase⟩, ⟨8, .phase⟩, ⟨9, .phase⟩, ⟨10, .phase⟩, ⟨11, .phase⟩, ⟨12, .phase⟩], none⟩) hH.out (by rintro w s0; go_simp <;> with_reducible rfl) ?_
          simp only [Act.put, sA, sB, sC]
          refine rdy (i := 14) (oi := ⟨none, .store 9 (.tmp 17) (.tmp 14), 0, "law.go:27", #[⟨13, .data⟩, ⟨8, .data⟩, ⟨12, .chain⟩, ⟨0, .phase⟩, ⟨1, .phase⟩, ⟨2, .phase⟩, ⟨3, .phase⟩, ⟨4, .phase⟩, ⟨5, .phase⟩, ⟨6, .phase⟩, ⟨7, .phase⟩, ⟨8, .phase⟩, ⟨9, .phase⟩, ⟨10, .phase⟩, ⟨11, .phase⟩, ⟨12, .phase⟩], none⟩) (fun K hK => ?_)
          go_simp
          refine hK.out _ _ (by first | exact True.intro) (fun hHeld => ?_)
          replace hH := Lib.hid hHeld
          clear hK K hHeld
          try simp only [Act.put]
          refine wpAnyH_done (by kernel_rfl) ?_ _
          go_wp2_with fail
          go_meet
          exact ⟨rfl, HV.out.symm⟩
      · go_simp
        refine hK.out _ _ (by first | exact True.intro) (fun hHeld => ?_)
        replace hH := Lib.hid hHeld
        clear hK K hHeld
        try simp only [Act.put, sA, sB, sC]
        refine wpAnyH_ready (rs := [2, 7]) (by kernel_rfl) (by simp) ?_
        refine AllReadyH.cons (o := ⟨some 8, .call ⟨.value (.func 29), #[.tmp 7, .const (Go.Value.int Go.IntKind.i64 20)], #[9, 3]⟩, 9, "law.go:27", #[⟨1, .data⟩], none⟩) rfl (fun K hK => ?_) (AllReadyH.cons (o := ⟨some 13, .load 9 (.tmp 12), 9, "law.go:27", #[⟨6, .data⟩], none⟩) rfl (fun K hK => ?_) (AllReadyH.nil))
        · go_simp
          refine (HS20.out _).mono ?_
          rintro r w11 ⟨rfl, rfl⟩
          go_wp2_with fail
          refine hK.out _ _ (by first | exact True.intro) (fun hHeld => ?_)
          replace hH := Lib.hid hHeld
          clear hK K hHeld
          try simp only [Act.put, sA, sB, sC]
          refine wpAnyH_ready (rs := [5, 7]) (by kernel_rfl) (by simp) ?_
          refine AllReadyH.cons (o := ⟨some 11, .call ⟨.value (.func 29), #[.tmp 10, .const (Go.Value.int Go.IntKind.i64 20)], #[9, 3]⟩, 9, "law.go:27", #[⟨4, .data⟩, ⟨2, .chain⟩], none⟩) rfl (fun K hK => ?_) (AllReadyH.cons (o := ⟨some 13, .load 9 (.tmp 12), 9, "law.go:27", #[⟨6, .data⟩], none⟩) rfl (fun K hK => ?_) (AllReadyH.nil))
          · go_simp
            refine (HO20.out _).mono ?_
            rintro r w11 ⟨rfl, rfl⟩
            go_wp2_with fail
            refine hK.out _ _ (by first | exact True.intro) (fun hHeld => ?_)
            replace hH := Lib.hid hHeld
            clear hK K hHeld
            try simp only [Act.put, sA, sB, sC]
            refine rdy (i := 7) (oi := ⟨some 13, .load 9 (.tmp 12), 9, "law.go:27", #[⟨6, .data⟩], none⟩) (fun K hK => ?_)
            go_simp
            refine hK.out _ _ (by first | exact True.intro) (fun hHeld => ?_)
            replace hH := Lib.hid hHeld
            clear hK K hHeld
            try simp only [Act.put, sA, sB, sC]
            refine tk (i := 9) (oi := ⟨some 15, .fieldAddr 28 (.tmp 1) 9, 0, "law.go:27", #[⟨0, .phase⟩, ⟨1, .phase⟩, ⟨2, .phase⟩, ⟨3, .phase⟩, ⟨4, .phase⟩, { on := 5, ground := Go.Ground.textOnly Go.Departure.lateStoresUnsure }, ⟨6, .phase⟩, ⟨7, .phase⟩, { on := 8, ground := Go.Ground.textOnly Go.Departure.lateStoresUnsure }], none⟩) hH.out (by rintro w s0; go_simp <;> with_reducible rfl) ?_
            simp only [Act.put, sA, sB, sC]
            refine rdy (i := 8) (oi := ⟨some 14, .call ⟨.value (.func 29), #[.tmp 13, .const (Go.Value.int Go.IntKind.i64 70)], #[9, 3]⟩, 9, "law.go:27", #[⟨7, .data⟩, ⟨5, .chain⟩], none⟩) (fun K hK => ?_)
            go_simp
            refine (HS70.out _).mono ?_
            rintro r w11 ⟨rfl, rfl⟩
            go_wp2_with fail
            refine hK.out _ _ (by first | exact True.intro) (fun hHeld => ?_)
            replace hH := Lib.hid hHeld
            clear hK K hHeld
            try simp only [Act.put, sA, sB, sC]
            refine rdy (i := 10) (oi := ⟨none, .store 9 (.tmp 15) (.tmp 8), 0, "law.go:27", #[⟨9, .data⟩, ⟨2, .data⟩, ⟨8, .chain⟩, ⟨0, .phase⟩, ⟨1, .phase⟩, ⟨2, .phase⟩, ⟨3, .phase⟩, ⟨4, .phase⟩, { on := 5, ground := Go.Ground.textOnly Go.Departure.lateStoresUnsure }, ⟨6, .phase⟩, ⟨7, .phase⟩, { on := 8, ground := Go.Ground.textOnly Go.Departure.lateStoresUnsure }], none⟩) (fun K hK => ?_)
            go_simp
            refine hK.out _ _ (by first | exact True.intro) (fun hHeld => ?_)
            replace hH := Lib.hid hHeld
            clear hK K hHeld
            try simp only [Act.put]
            refine tk (i := 11) (oi := ⟨some 16, .fieldAddr 28 (.tmp 1) 10, 0, "law.go:27", #[⟨0, .phase⟩, ⟨1, .phase⟩, ⟨2, .phase⟩, ⟨3, .phase⟩, ⟨4, .phase⟩, ⟨5, .phase⟩, ⟨6, .phase⟩, ⟨7, .phase⟩, { on := 8, ground := Go.Ground.textOnly Go.Departure.lateStoresUnsure }, ⟨9, .phase⟩, ⟨10, .phase⟩], none⟩) hH.out (by rintro w s0; go_simp <;> with_reducible rfl) ?_
            simp only [Act.put, sA, sB, sC]
            refine rdy (i := 12) (oi := ⟨none, .store 9 (.tmp 16) (.tmp 11), 0, "law.go:27", #[⟨11, .data⟩, ⟨5, .data⟩, ⟨10, .chain⟩, ⟨0, .phase⟩, ⟨1, .phase⟩, ⟨2, .phase⟩, ⟨3, .phase⟩, ⟨4, .phase⟩, ⟨5, .phase⟩, ⟨6, .phase⟩, ⟨7, .phase⟩, { on := 8, ground := Go.Ground.textOnly Go.Departure.lateStoresUnsure }, ⟨9, .phase⟩, ⟨10, .phase⟩], none⟩) (fun K hK => ?_)
            go_simp
            refine hK.out _ _ (by first | exact True.intro) (fun hHeld => ?_)
            replace hH := Lib.hid hHeld
            clear hK K hHeld
            try simp only [Act.put]
            refine tk (i := 13) (oi := ⟨some 17, .fieldAddr 28 (.tmp 1) 13, 0, "law.go:27", #[⟨0, .phase⟩, ⟨1, .phase⟩, ⟨2, .phase⟩, ⟨3, .phase⟩, ⟨4, .phase⟩, ⟨5, .phase⟩, ⟨6, .phase⟩, ⟨7, .phase⟩, ⟨8, .phase⟩, ⟨9, .phase⟩, ⟨10, .phase⟩, ⟨11, .phase⟩, ⟨12, .phase⟩], none⟩) hH.out (by rintro w s0; go_simp <;> with_reducible rfl) ?_
            simp only [Act.put, sA, sB, sC]
            refine rdy (i := 14) (oi := ⟨none, .store 9 (.tmp 17) (.tmp 14), 0, "law.go:27", #[⟨13, .data⟩, ⟨8, .data⟩, ⟨12, .chain⟩, ⟨0, .phase⟩, ⟨1, .phase⟩, ⟨2, .phase⟩, ⟨3, .phase⟩, ⟨4, .phase⟩, ⟨5, .phase⟩, ⟨6, .phase⟩, ⟨7, .phase⟩, ⟨8, .phase⟩, ⟨9, .phase⟩, ⟨10, .phase⟩, ⟨11, .phase⟩, ⟨12, .phase⟩], none⟩) (fun K hK => ?_)
            go_simp
            refine hK.out _ _ (by first | exact True.intro) (fun hHeld => ?_)
            replace hH := Lib.hid hHeld
            clear hK K hHeld
            try simp only [Act.put]
            refine wpAnyH_done (by kernel_rfl) ?_ _
            go_wp2_with fail
            go_meet
            exact ⟨rfl, HV.out.symm⟩
          · go_simp
            refine hK.out _ _ (by first | exact True.intro) (fun hHeld => ?_)
            replace hH := Lib.hid hHeld
            clear hK K hHeld
            try simp only [Act.put, sA, sB, sC]
            refine tk (i := 9) (oi := ⟨some 15, .fieldAddr 28 (.tmp 1) 9, 0, "law.go:27", #[⟨0, .phase⟩, ⟨1, .phase⟩, ⟨2, .phase⟩, ⟨3, .phase⟩, ⟨4, .phase⟩, { on := 5, ground := Go.Ground.textOnly Go.Departure.lateStoresUnsure }, ⟨6, .phase⟩, ⟨7, .phase⟩, { on := 8, ground := Go.Ground.textOnly Go.Departure.lateStoresUnsure }], none⟩) hH.out (by rintro w s0; go_simp <;> with_reducible rfl) ?_
            simp only [Act.put, sA, sB, sC]
            refine rdy (i := 5) (oi := ⟨some 11, .call ⟨.value (.func 29), #[.tmp 10, .const (Go.Value.int Go.IntKind.i64 20)], #[9, 3]⟩, 9, "law.go:27", #[⟨4, .data⟩, ⟨2, .chain⟩], none⟩) (fun K hK => ?_)
            go_simp
            refine (HO20.out _).mono ?_
            rintro r w11 ⟨rfl, rfl⟩
            go_wp2_with fail
            refine hK.out _ _ (by first | exact True.intro) (fun hHeld => ?_)
            replace hH := Lib.hid hHeld
            clear hK K hHeld
            try simp only [Act.put, sA, sB, sC]
            refine rdy (i := 8) (oi := ⟨some 14, .call ⟨.value (.func 29), #[.tmp 13, .const (Go.Value.int Go.IntKind.i64 70)], #[9, 3]⟩, 9, "law.go:27", #[⟨7, .data⟩, ⟨5, .chain⟩], none⟩) (fun K hK => ?_)
            go_simp
            refine (HS70.out _).mono ?_
            rintro r w11 ⟨rfl, rfl⟩
            go_wp2_with fail
            refine hK.out _ _ (by first | exact True.intro) (fun hHeld => ?_)
            replace hH := Lib.hid hHeld
            clear hK K hHeld
            try simp only [Act.put, sA, sB, sC]
            refine rdy (i := 10) (oi := ⟨none, .store 9 (.tmp 15) (.tmp 8), 0, "law.go:27", #[⟨9, .data⟩, ⟨2, .data⟩, ⟨8, .chain⟩, ⟨0, .phase⟩, ⟨1, .phase⟩, ⟨2, .phase⟩, ⟨3, .phase⟩, ⟨4, .phase⟩, { on := 5, ground := Go.Ground.textOnly Go.Departure.lateStoresUnsure }, ⟨6, .phase⟩, ⟨7, .phase⟩, { on := 8, ground := Go.Ground.textOnly Go.Departure.lateStoresUnsure }], none⟩) (fun K hK => ?_)
            go_simp
            refine hK.out _ _ (by first | exact True.intro) (fun hHeld => ?_)
            replace hH := Lib.hid hHeld
            clear hK K hHeld
            try simp only [Act.put]
            refine tk (i := 11) (oi := ⟨some 16, .fieldAddr 28 (.tmp 1) 10, 0, "law.go:27", #[⟨0, .phase⟩, ⟨1, .phase⟩, ⟨2, .phase⟩, ⟨3, .phase⟩, ⟨4, .phase⟩, ⟨5, .phase⟩, ⟨6, .phase⟩, ⟨7, .phase⟩, { on := 8, ground := Go.Ground.textOnly Go.Departure.lateStoresUnsure }, ⟨9, .phase⟩, ⟨10, .phase⟩], none⟩) hH.out (by rintro w s0; go_simp <;> with_reducible rfl) ?_
            simp only [Act.put, sA, sB, sC]
            refine rdy (i := 12) (oi := ⟨none, .store 9 (.tmp 16) (.tmp 11), 0, "law.go:27", #[⟨11, .data⟩, ⟨5, .data⟩, ⟨10, .chain⟩, ⟨0, .phase⟩, ⟨1, .phase⟩, ⟨2, .phase⟩, ⟨3, .phase⟩, ⟨4, .phase⟩, ⟨5, .phase⟩, ⟨6, .phase⟩, ⟨7, .phase⟩, { on := 8, ground := Go.Ground.textOnly Go.Departure.lateStoresUnsure }, ⟨9, .phase⟩, ⟨10, .phase⟩], none⟩) (fun K hK => ?_)
            go_simp
            refine hK.out _ _ (by first | exact True.intro) (fun hHeld => ?_)
            replace hH := Lib.hid hHeld
            clear hK K hHeld
            try simp only [Act.put]
            refine tk (i := 13) (oi := ⟨some 17, .fieldAddr 28 (.tmp 1) 13, 0, "law.go:27", #[⟨0, .phase⟩, ⟨1, .phase⟩, ⟨2, .phase⟩, ⟨3, .phase⟩, ⟨4, .phase⟩, ⟨5, .phase⟩, ⟨6, .phase⟩, ⟨7, .phase⟩, ⟨8, .phase⟩, ⟨9, .phase⟩, ⟨10, .phase⟩, ⟨11, .phase⟩, ⟨12, .phase⟩], none⟩) hH.out (by rintro w s0; go_simp <;> with_reducible rfl) ?_
            simp only [Act.put, sA, sB, sC]
            refine rdy (i := 14) (oi := ⟨none, .store 9 (.tmp 17) (.tmp 14), 0, "law.go:27", #[⟨13, .data⟩, ⟨8, .data⟩, ⟨12, .chain⟩, ⟨0, .phase⟩, ⟨1, .phase⟩, ⟨2, .phase⟩, ⟨3, .phase⟩, ⟨4, .phase⟩, ⟨5, .phase⟩, ⟨6, .phase⟩, ⟨7, .phase⟩, ⟨8, .phase⟩, ⟨9, .phase⟩, ⟨10, .phase⟩, ⟨11, .phase⟩, ⟨12, .phase⟩], none⟩) (fun K hK => ?_)
            go_simp
            refine hK.out _ _ (by first | exact True.intro) (fun hHeld => ?_)
            replace hH := Lib.hid hHeld
            clear hK K hHeld
            try simp only [Act.put]
            refine wpAnyH_done (by kernel_rfl) ?_ _
            go_wp2_with fail
            go_meet
            exact ⟨rfl, HV.out.symm⟩
        · go_simp
          refine hK.out _ _ (by first | exact True.intro) (fun hHeld => ?_)
          replace hH := Lib.hid hHeld
          clear hK K hHeld
          try simp only [Act.put, sA, sB, sC]
          refine rdy (i := 2) (oi := ⟨some 8, .call ⟨.value (.func 29), #[.tmp 7, .const (Go.Value.int Go.IntKind.i64 20)], #[9, 3]⟩, 9, "law.go:27", #[⟨1, .data⟩], none⟩) (fun K hK => ?_)
          go_simp
          refine (HS20.out _).mono ?_
          rintro r w11 ⟨rfl, rfl⟩
          go_wp2_with fail
          refine hK.out _ _ (by first | exact True.intro) (fun hHeld => ?_)
          replace hH := Lib.hid hHeld
          clear hK K hHeld
          try simp only [Act.put, sA, sB, sC]
          refine tk (i := 9) (oi := ⟨some 15, .fieldAddr 28 (.tmp 1) 9, 0, "law.go:27", #[⟨0, .phase⟩, ⟨1, .phase⟩, ⟨2, .phase⟩, ⟨3, .phase⟩, ⟨4, .phase⟩, { on := 5, ground := Go.Ground.textOnly Go.Departure.lateStoresUnsure }, ⟨6, .phase⟩, ⟨7, .phase⟩, { on := 8, ground := Go.Ground.textOnly Go.Departure.lateStoresUnsure }], none⟩) hH.out (by rintro w s0; go_simp <;> with_reducible rfl) ?_
          simp only [Act.put, sA, sB, sC]
          refine rdy (i := 5) (oi := ⟨some 11, .call ⟨.value (.func 29), #[.tmp 10, .const (Go.Value.int Go.IntKind.i64 20)], #[9, 3]⟩, 9, "law.go:27", #[⟨4, .data⟩, ⟨2, .chain⟩], none⟩) (fun K hK => ?_)
          go_simp
          refine (HO20.out _).mono ?_
          rintro r w11 ⟨rfl, rfl⟩
          go_wp2_with fail
          refine hK.out _ _ (by first | exact True.intro) (fun hHeld => ?_)
          replace hH := Lib.hid hHeld
          clear hK K hHeld
          try simp only [Act.put, sA, sB, sC]
          refine rdy (i := 8) (oi := ⟨some 14, .call ⟨.value (.func 29), #[.tmp 13, .const (Go.Value.int Go.IntKind.i64 70)], #[9, 3]⟩, 9, "law.go:27", #[⟨7, .data⟩, ⟨5, .chain⟩], none⟩) (fun K hK => ?_)
          go_simp
          refine (HS70.out _).mono ?_
          rintro r w11 ⟨rfl, rfl⟩
          go_wp2_with fail
          refine hK.out _ _ (by first | exact True.intro) (fun hHeld => ?_)
          replace hH := Lib.hid hHeld
          clear hK K hHeld
          try simp only [Act.put, sA, sB, sC]
          refine rdy (i := 10) (oi := ⟨none, .store 9 (.tmp 15) (.tmp 8), 0, "law.go:27", #[⟨9, .data⟩, ⟨2, .data⟩, ⟨8, .chain⟩, ⟨0, .phase⟩, ⟨1, .phase⟩, ⟨2, .phase⟩, ⟨3, .phase⟩, ⟨4, .phase⟩, { on := 5, ground := Go.Ground.textOnly Go.Departure.lateStoresUnsure }, ⟨6, .phase⟩, ⟨7, .phase⟩, { on := 8, ground := Go.Ground.textOnly Go.Departure.lateStoresUnsure }], none⟩) (fun K hK => ?_)
          go_simp
          refine hK.out _ _ (by first | exact True.intro) (fun hHeld => ?_)
          replace hH := Lib.hid hHeld
          clear hK K hHeld
          try simp only [Act.put]
          refine tk (i := 11) (oi := ⟨some 16, .fieldAddr 28 (.tmp 1) 10, 0, "law.go:27", #[⟨0, .phase⟩, ⟨1, .phase⟩, ⟨2, .phase⟩, ⟨3, .phase⟩, ⟨4, .phase⟩, ⟨5, .phase⟩, ⟨6, .phase⟩, ⟨7, .phase⟩, { on := 8, ground := Go.Ground.textOnly Go.Departure.lateStoresUnsure }, ⟨9, .phase⟩, ⟨10, .phase⟩], none⟩) hH.out (by rintro w s0; go_simp <;> with_reducible rfl) ?_
          simp only [Act.put, sA, sB, sC]
          refine rdy (i := 12) (oi := ⟨none, .store 9 (.tmp 16) (.tmp 11), 0, "law.go:27", #[⟨11, .data⟩, ⟨5, .data⟩, ⟨10, .chain⟩, ⟨0, .phase⟩, ⟨1, .phase⟩, ⟨2, .phase⟩, ⟨3, .phase⟩, ⟨4, .phase⟩, ⟨5, .phase⟩, ⟨6, .phase⟩, ⟨7, .phase⟩, { on := 8, ground := Go.Ground.textOnly Go.Departure.lateStoresUnsure }, ⟨9, .phase⟩, ⟨10, .phase⟩], none⟩) (fun K hK => ?_)
          go_simp
          refine hK.out _ _ (by first | exact True.intro) (fun hHeld => ?_)
          replace hH := Lib.hid hHeld
          clear hK K hHeld
          try simp only [Act.put]
          refine tk (i := 13) (oi := ⟨some 17, .fieldAddr 28 (.tmp 1) 13, 0, "law.go:27", #[⟨0, .phase⟩, ⟨1, .phase⟩, ⟨2, .phase⟩, ⟨3, .phase⟩, ⟨4, .phase⟩, ⟨5, .phase⟩, ⟨6, .phase⟩, ⟨7, .phase⟩, ⟨8, .phase⟩, ⟨9, .phase⟩, ⟨10, .phase⟩, ⟨11, .phase⟩, ⟨12, .phase⟩], none⟩) hH.out (by rintro w s0; go_simp <;> with_reducible rfl) ?_
          simp only [Act.put, sA, sB, sC]
          refine rdy (i := 14) (oi := ⟨none, .store 9 (.tmp 17) (.tmp 14), 0, "law.go:27", #[⟨13, .data⟩, ⟨8, .data⟩, ⟨12, .chain⟩, ⟨0, .phase⟩, ⟨1, .phase⟩, ⟨2, .phase⟩, ⟨3, .phase⟩, ⟨4, .phase⟩, ⟨5, .phase⟩, ⟨6, .phase⟩, ⟨7, .phase⟩, ⟨8, .phase⟩, ⟨9, .phase⟩, ⟨10, .phase⟩, ⟨11, .phase⟩, ⟨12, .phase⟩], none⟩) (fun K hK => ?_)
          go_simp
          refine hK.out _ _ (by first | exact True.intro) (fun hHeld => ?_)
          replace hH := Lib.hid hHeld
          clear hK K hHeld
          try simp only [Act.put]
          refine wpAnyH_done (by kernel_rfl) ?_ _
          go_wp2_with fail
          go_meet
          exact ⟨rfl, HV.out.symm⟩
      · go_simp
        refine hK.out _ _ (by first | exact True.intro) (fun hHeld => ?_)
        replace hH := Lib.hid hHeld
        clear hK K hHeld
        try simp only [Act.put, sA, sB, sC]
        refine wpAnyH_ready (rs := [2, 4]) (by kernel_rfl) (by simp) ?_
        refine AllReadyH.cons (o := ⟨some 8, .call ⟨.value (.func 29), #[.tmp 7, .const (Go.Value.int Go.IntKind.i64 20)], #[9, 3]⟩, 9, "law.go:27", #[⟨1, .data⟩], none⟩) rfl (fun K hK => ?_) (AllReadyH.cons (o := ⟨some 10, .load 9 (.tmp 9), 9, "law.go:27", #[⟨3, .data⟩], none⟩) rfl (fun K hK => ?_) (AllReadyH.nil))
        · go_simp
          refine (HS20.out _).mono ?_
          rintro r w11 ⟨rfl, rfl⟩
          go_wp2_with fail
          refine hK.out _ _ (by first | exact True.intro) (fun hHeld => ?_)
          replace hH := Lib.hid hHeld
          clear hK K hHeld
          try simp only [Act.put, sA, sB, sC]
          refine rdy (i := 4) (oi := ⟨some 10, .load 9 (.tmp 9), 9, "law.go:27", #[⟨3, .data⟩], none⟩) (fun K hK => ?_)
          go_simp
          refine hK.out _ _ (by first | exact True.intro) (fun hHeld => ?_)
          replace hH := Lib.hid hHeld
          clear hK K hHeld
          try simp only [Act.put, sA, sB, sC]
          refine tk (i := 9) (oi := ⟨some 15, .fieldAddr 28 (.tmp 1) 9, 0, "law.go:27", #[⟨0, .phase⟩, ⟨1, .phase⟩, ⟨2, .phase⟩, ⟨3, .phase⟩, ⟨4, .phase⟩, { on := 5, ground := Go.Ground.textOnly Go.Departure.lateStoresUnsure }, ⟨6, .phase⟩, ⟨7, .phase⟩, { on := 8, ground := Go.Ground.textOnly Go.Departure.lateStoresUnsure }], none⟩) hH.out (by rintro w s0; go_simp <;> with_reducible rfl) ?_
          simp only [Act.put, sA, sB, sC]
          refine rdy (i := 5) (oi := ⟨some 11, .call ⟨.value (.func 29), #[.tmp 10, .const (Go.Value.int Go.IntKind.i64 20)], #[9, 3]⟩, 9, "law.go:27", #[⟨4, .data⟩, ⟨2, .chain⟩], none⟩) (fun K hK => ?_)
          go_simp
          refine (HO20.out _).mono ?_
          rintro r w11 ⟨rfl, rfl⟩
          go_wp2_with fail
          refine hK.out _ _ (by first | exact True.intro) (fun hHeld => ?_)
          replace hH := Lib.hid hHeld
          clear hK K hHeld
          try simp only [Act.put, sA, sB, sC]
          refine rdy (i := 8) (oi := ⟨some 14, .call ⟨.value (.func 29), #[.tmp 13, .const (Go.Value.int Go.IntKind.i64 70)], #[9, 3]⟩, 9, "law.go:27", #[⟨7, .data⟩, ⟨5, .chain⟩], none⟩) (fun K hK => ?_)
          go_simp
          refine (HS70.out _).mono ?_
          rintro r w11 ⟨rfl, rfl⟩
          go_wp2_with fail
          refine hK.out _ _ (by first | exact True.intro) (fun hHeld => ?_)
          replace hH := Lib.hid hHeld
          clear hK K hHeld
          try simp only [Act.put, sA, sB, sC]
          refine rdy (i := 10) (oi := ⟨none, .store 9 (.tmp 15) (.tmp 8), 0, "law.go:27", #[⟨9, .data⟩, ⟨2, .data⟩, ⟨8, .chain⟩, ⟨0, .phase⟩, ⟨1, .phase⟩, ⟨2, .phase⟩, ⟨3, .phase⟩, ⟨4, .phase⟩, { on := 5, ground := Go.Ground.textOnly Go.Departure.lateStoresUnsure }, ⟨6, .phase⟩, ⟨7, .phase⟩, { on := 8, ground := Go.Ground.textOnly Go.Departure.lateStoresUnsure }], none⟩) (fun K hK => ?_)
          go_simp
          refine hK.out _ _ (by first | exact True.intro) (fun hHeld => ?_)
          replace hH := Lib.hid hHeld
          clear hK K hHeld
          try simp only [Act.put]
          refine tk (i := 11) (oi := ⟨some 16, .fieldAddr 28 (.tmp 1) 10, 0, "law.go:27", #[⟨0, .phase⟩, ⟨1, .phase⟩, ⟨2, .phase⟩, ⟨3, .phase⟩, ⟨4, .phase⟩, ⟨5, .phase⟩, ⟨6, .phase⟩, ⟨7, .phase⟩, { on := 8, ground := Go.Ground.textOnly Go.Departure.lateStoresUnsure }, ⟨9, .phase⟩, ⟨10, .phase⟩], none⟩) hH.out (by rintro w s0; go_simp <;> with_reducible rfl) ?_
          simp only [Act.put, sA, sB, sC]
          refine rdy (i := 12) (oi := ⟨none, .store 9 (.tmp 16) (.tmp 11), 0, "law.go:27", #[⟨11, .data⟩, ⟨5, .data⟩, ⟨10, .chain⟩, ⟨0, .phase⟩, ⟨1, .phase⟩, ⟨2, .phase⟩, ⟨3, .phase⟩, ⟨4, .phase⟩, ⟨5, .phase⟩, ⟨6, .phase⟩, ⟨7, .phase⟩, { on := 8, ground := Go.Ground.textOnly Go.Departure.lateStoresUnsure }, ⟨9, .phase⟩, ⟨10, .phase⟩], none⟩) (fun K hK => ?_)
          go_simp
          refine hK.out _ _ (by first | exact True.intro) (fun hHeld => ?_)
          replace hH := Lib.hid hHeld
          clear hK K hHeld
          try simp only [Act.put]
          refine tk (i := 13) (oi := ⟨some 17, .fieldAddr 28 (.tmp 1) 13, 0, "law.go:27", #[⟨0, .phase⟩, ⟨1, .phase⟩, ⟨2, .phase⟩, ⟨3, .phase⟩, ⟨4, .phase⟩, ⟨5, .phase⟩, ⟨6, .phase⟩, ⟨7, .phase⟩, ⟨8, .phase⟩, ⟨9, .phase⟩, ⟨10, .phase⟩, ⟨11, .phase⟩, ⟨12, .phase⟩], none⟩) hH.out (by rintro w s0; go_simp <;> with_reducible rfl) ?_
          simp only [Act.put, sA, sB, sC]
          refine rdy (i := 14) (oi := ⟨none, .store 9 (.tmp 17) (.tmp 14), 0, "law.go:27", #[⟨13, .data⟩, ⟨8, .data⟩, ⟨12, .chain⟩, ⟨0, .phase⟩, ⟨1, .phase⟩, ⟨2, .phase⟩, ⟨3, .phase⟩, ⟨4, .phase⟩, ⟨5, .phase⟩, ⟨6, .phase⟩, ⟨7, .phase⟩, ⟨8, .phase⟩, ⟨9, .phase⟩, ⟨10, .phase⟩, ⟨11, .phase⟩, ⟨12, .phase⟩], none⟩) (fun K hK => ?_)
          go_simp
          refine hK.out _ _ (by first | exact True.intro) (fun hHeld => ?_)
          replace hH := Lib.hid hHeld
          clear hK K hHeld
          try simp only [Act.put]
          refine wpAnyH_done (by kernel_rfl) ?_ _
          go_wp2_with fail
          go_meet
          exact ⟨rfl, HV.out.symm⟩
        · go_simp
          refine hK.out _ _ (by first | exact True.intro) (fun hHeld => ?_)
          replace hH := Lib.hid hHeld
          clear hK K hHeld
          try simp only [Act.put, sA, sB, sC]
          refine rdy (i := 2) (oi := ⟨some 8, .call ⟨.value (.func 29), #[.tmp 7, .const (Go.Value.int Go.IntKind.i64 20)], #[9, 3]⟩, 9, "law.go:27", #[⟨1, .data⟩], none⟩) (fun K hK => ?_)
          go_simp
          refine (HS20.out _).mono ?_
          rintro r w11 ⟨rfl, rfl⟩
          go_wp2_with fail
          refine hK.out _ _ (by first | exact True.intro) (fun hHeld => ?_)
          replace hH := Lib.hid hHeld
          clear hK K hHeld
          try simp only [Act.put, sA, sB, sC]
          refine tk (i := 9) (oi := ⟨some 15, .fieldAddr 28 (.tmp 1) 9, 0, "law.go:27", #[⟨0, .phase⟩, ⟨1, .phase⟩, ⟨2, .phase⟩, ⟨3, .phase⟩, ⟨4, .phase⟩, { on := 5, ground := Go.Ground.textOnly Go.Departure.lateStoresUnsure }, ⟨6, .phase⟩, ⟨7, .phase⟩, { on := 8, ground := Go.Ground.textOnly Go.Departure.lateStoresUnsure }], none⟩) hH.out (by rintro w s0; go_simp <;> with_reducible rfl) ?_
          simp only [Act.put, sA, sB, sC]
          refine rdy (i := 5) (oi := ⟨some 11, .call ⟨.value (.func 29), #[.tmp 10, .const (Go.Value.int Go.IntKind.i64 20)], #[9, 3]⟩, 9, "law.go:27", #[⟨4, .data⟩, ⟨2, .chain⟩], none⟩) (fun K hK => ?_)
          go_simp
          refine (HO20.out _).mono ?_
          rintro r w11 ⟨rfl, rfl⟩
          go_wp2_with fail
          refine hK.out _ _ (by first | exact True.intro) (fun hHeld => ?_)
          replace hH := Lib.hid hHeld
          clear hK K hHeld
          try simp only [Act.put, sA, sB, sC]
          refine rdy (i := 8) (oi := ⟨some 14, .call ⟨.value (.func 29), #[.tmp 13, .const (Go.Value.int Go.IntKind.i64 70)], #[9, 3]⟩, 9, "law.go:27", #[⟨7, .data⟩, ⟨5, .chain⟩], none⟩) (fun K hK => ?_)
          go_simp
          refine (HS70.out _).mono ?_
          rintro r w11 ⟨rfl, rfl⟩
          go_wp2_with fail
          refine hK.out _ _ (by first | exact True.intro) (fun hHeld => ?_)
          replace hH := Lib.hid hHeld
          clear hK K hHeld
          try simp only [Act.put, sA, sB, sC]
          refine rdy (i := 10) (oi := ⟨none, .store 9 (.tmp 15) (.tmp 8), 0, "law.go:27", #[⟨9, .data⟩, ⟨2, .data⟩, ⟨8, .chain⟩, ⟨0, .phase⟩, ⟨1, .phase⟩, ⟨2, .phase⟩, ⟨3, .phase⟩, ⟨4, .phase⟩, { on := 5, ground := Go.Ground.textOnly Go.Departure.lateStoresUnsure }, ⟨6, .phase⟩, ⟨7, .phase⟩, { on := 8, ground := Go.Ground.textOnly Go.Departure.lateStoresUnsure }], none⟩) (fun K hK => ?_)
          go_simp
          refine hK.out _ _ (by first | exact True.intro) (fun hHeld => ?_)
          replace hH := Lib.hid hHeld
          clear hK K hHeld
          try simp only [Act.put]
          refine tk (i := 11) (oi := ⟨some 16, .fieldAddr 28 (.tmp 1) 10, 0, "law.go:27", #[⟨0, .phase⟩, ⟨1, .phase⟩, ⟨2, .phase⟩, ⟨3, .phase⟩, ⟨4, .phase⟩, ⟨5, .phase⟩, ⟨6, .phase⟩, ⟨7, .phase⟩, { on := 8, ground := Go.Ground.textOnly Go.Departure.lateStoresUnsure }, ⟨9, .phase⟩, ⟨10, .phase⟩], none⟩) hH.out (by rintro w s0; go_simp <;> with_reducible rfl) ?_
          simp only [Act.put, sA, sB, sC]
          refine rdy (i := 12) (oi := ⟨none, .store 9 (.tmp 16) (.tmp 11), 0, "law.go:27", #[⟨11, .data⟩, ⟨5, .data⟩, ⟨10, .chain⟩, ⟨0, .phase⟩, ⟨1, .phase⟩, ⟨2, .phase⟩, ⟨3, .phase⟩, ⟨4, .phase⟩, ⟨5, .phase⟩, ⟨6, .phase⟩, ⟨7, .phase⟩, { on := 8, ground := Go.Ground.textOnly Go.Departure.lateStoresUnsure }, ⟨9, .phase⟩, ⟨10, .phase⟩], none⟩) (fun K hK => ?_)
          go_simp
          refine hK.out _ _ (by first | exact True.intro) (fun hHeld => ?_)
          replace hH := Lib.hid hHeld
          clear hK K hHeld
          try simp only [Act.put]
          refine tk (i := 13) (oi := ⟨some 17, .fieldAddr 28 (.tmp 1) 13, 0, "law.go:27", #[⟨0, .phase⟩, ⟨1, .phase⟩, ⟨2, .phase⟩, ⟨3, .phase⟩, ⟨4, .phase⟩, ⟨5, .phase⟩, ⟨6, .phase⟩, ⟨7, .phase⟩, ⟨8, .phase⟩, ⟨9, .phase⟩, ⟨10, .phase⟩, ⟨11, .phase⟩, ⟨12, .phase⟩], none⟩) hH.out (by rintro w s0; go_simp <;> with_reducible rfl) ?_
          simp only [Act.put, sA, sB, sC]
          refine rdy (i := 14) (oi := ⟨none, .store 9 (.tmp 17) (.tmp 14), 0, "law.go:27", #[⟨13, .data⟩, ⟨8, .data⟩, ⟨12, .chain⟩, ⟨0, .phase⟩, ⟨1, .phase⟩, ⟨2, .phase⟩, ⟨3, .phase⟩, ⟨4, .phase⟩, ⟨5, .phase⟩, ⟨6, .phase⟩, ⟨7, .phase⟩, ⟨8, .phase⟩, ⟨9, .phase⟩, ⟨10, .phase⟩, ⟨11, .phase⟩, ⟨12, .phase⟩], none⟩) (fun K hK => ?_)
          go_simp
          refine hK.out _ _ (by first | exact True.intro) (fun hHeld => ?_)
          replace hH := Lib.hid hHeld
          clear hK K hHeld
          try simp only [Act.put]
          refine wpAnyH_done (by kernel_rfl) ?_ _
          go_wp2_with fail
          go_meet
          exact ⟨rfl, HV.out.symm⟩
    · go_simp
      refine hK.out _ _ (by first | exact True.intro) (fun hHeld => ?_)
      replace hH := Lib.hid hHeld
      clear hK K hHeld
      try simp only [Act.put, sA, sB, sC]
      refine wpAnyH_ready (rs := [1, 7]) (by kernel_rfl) (by simp) ?_
      refine AllReadyH.cons (o := ⟨some 7, .load 9 (.tmp 6), 9, "law.go:27", #[⟨0, .data⟩], none⟩) rfl (fun K hK => ?_) (AllReadyH.cons (o := ⟨some 13, .load 9 (.tmp 12), 9, "law.go:27", #[⟨6, .data⟩], none⟩) rfl (fun K hK => ?_) (AllReadyH.nil))
      · go_simp
        refine hK.out _ _ (by first | exact True.intro) (fun hHeld => ?_)
        replace hH := Lib.hid hHeld
        clear hK K hHeld
        try simp only [Act.put, sA, sB, sC]
        refine wpAnyH_ready (rs := [2, 7]) (by kernel_rfl) (by simp) ?_
        refine AllReadyH.cons (o := ⟨some 8, .call ⟨.value (.func 29), #[.tmp 7, .const (Go.Value.int Go.IntKind.i64 20)], #[9, 3]⟩, 9, "law.go:27", #[⟨1, .data⟩], none⟩) rfl (fun K hK => ?_) (AllReadyH.cons (o := ⟨some 13, .load 9 (.tmp 12), 9, "law.go:27", #[⟨6, .data⟩], none⟩) rfl (fun K hK => ?_) (AllReadyH.nil))
        · go_simp
          refine (HS20.out _).mono ?_
          rintro r w11 ⟨rfl, rfl⟩
          go_wp2_with fail
          refine hK.out _ _ (by first | exact True.intro) (fun hHeld => ?_)
          replace hH := Lib.hid hHeld
          clear hK K hHeld
          try simp only [Act.put, sA, sB, sC]
          refine wpAnyH_ready (rs := [5, 7]) (by kernel_rfl) (by simp) ?_
          refine AllReadyH.cons (o := ⟨some 11, .call ⟨.value (.func 29), #[.tmp 10, .const (Go.Value.int Go.IntKind.i64 20)], #[9, 3]⟩, 9, "law.go:27", #[⟨4, .data⟩, ⟨2, .chain⟩], none⟩) rfl (fun K hK => ?_) (AllReadyH.cons (o := ⟨some 13, .load 9 (.tmp 12), 9, "law.go:27", #[⟨6, .data⟩], none⟩) rfl (fun K hK => ?_) (AllReadyH.nil))
          · go_simp
            refine (HO20.out _).mono ?_
            rintro r w11 ⟨rfl, rfl⟩
            go_wp2_with fail
            refine hK.out _ _ (by first | exact True.intro) (fun hHeld => ?_)
            replace hH := Lib.hid hHeld
            clear hK K hHeld
            try simp only [Act.put, sA, sB, sC]
            refine rdy (i := 7) (oi := ⟨some 13, .load 9 (.tmp 12), 9, "law.go:27", #[⟨6, .data⟩], none⟩) (fun K hK => ?_)
            go_simp
            refine hK.out _ _ (by first | exact True.intro) (fun hHeld => ?_)
            replace hH := Lib.hid hHeld
            clear hK K hHeld
            try simp only [Act.put, sA, sB, sC]
            refine tk (i := 9) (oi := ⟨some 15, .fieldAddr 28 (.tmp 1) 9, 0, "law.go:27", #[⟨0, .phase⟩, ⟨1, .phase⟩, ⟨2, .phase⟩, ⟨3, .phase⟩, ⟨4, .phase⟩, { on := 5, ground := Go.Ground.textOnly Go.Departure.lateStoresUnsure }, ⟨6, .phase⟩, ⟨7, .phase⟩, { on := 8, ground := Go.Ground.textOnly Go.Departure.lateStoresUnsure }], none⟩) hH.out (by rintro w s0; go_simp <;> with_reducible rfl) ?_
            simp only [Act.put, sA, sB, sC]
            refine rdy (i := 8) (oi := ⟨some 14, .call ⟨.value (.func 29), #[.tmp 13, .const (Go.Value.int Go.IntKind.i64 70)], #[9, 3]⟩, 9, "law.go:27", #[⟨7, .data⟩, ⟨5, .chain⟩], none⟩) (fun K hK => ?_)
            go_simp
            refine (HS70.out _).mono ?_
            rintro r w11 ⟨rfl, rfl⟩
            go_wp2_with fail
            refine hK.out _ _ (by first | exact True.intro) (fun hHeld => ?_)
            replace hH := Lib.hid hHeld
            clear hK K hHeld
            try simp only [Act.put, sA, sB, sC]
            refine rdy (i := 10) (oi := ⟨none, .store 9 (.tmp 15) (.tmp 8), 0, "law.go:27", #[⟨9, .data⟩, ⟨2, .data⟩, ⟨8, .chain⟩, ⟨0, .phase⟩, ⟨1, .phase⟩, ⟨2, .phase⟩, ⟨3, .phase⟩, ⟨4, .phase⟩, { on := 5, ground := Go.Ground.textOnly Go.Departure.lateStoresUnsure }, ⟨6, .phase⟩, ⟨7, .phase⟩, { on := 8, ground := Go.Ground.textOnly Go.Departure.lateStoresUnsure }], none⟩) (fun K hK => ?_)
            go_simp
            refine hK.out _ _ (by first | exact True.intro) (fun hHeld => ?_)
            replace hH := Lib.hid hHeld
            clear hK K hHeld
            try simp only [Act.put]
            refine tk (i := 11) (oi := ⟨some 16, .fieldAddr 28 (.tmp 1) 10, 0, "law.go:27", #[⟨0, .phase⟩, ⟨1, .phase⟩, ⟨2, .phase⟩, ⟨3, .phase⟩, ⟨4, .phase⟩, ⟨5, .phase⟩, ⟨6, .phase⟩, ⟨7, .phase⟩, { on := 8, ground := Go.Ground.textOnly Go.Departure.lateStoresUnsure }, ⟨9, .phase⟩, ⟨10, .phase⟩], none⟩) hH.out (by rintro w s0; go_simp <;> with_reducible rfl) ?_
            simp only [Act.put, sA, sB, sC]
            refine rdy (i := 12) (oi := ⟨none, .store 9 (.tmp 16) (.tmp 11), 0, "law.go:27", #[⟨11, .data⟩, ⟨5, .data⟩, ⟨10, .chain⟩, ⟨0, .phase⟩, ⟨1, .phase⟩, ⟨2, .phase⟩, ⟨3, .phase⟩, ⟨4, .phase⟩, ⟨5, .phase⟩, ⟨6, .phase⟩, ⟨7, .phase⟩, { on := 8, ground := Go.Ground.textOnly Go.Departure.lateStoresUnsure }, ⟨9, .phase⟩, ⟨10, .phase⟩], none⟩) (fun K hK => ?_)
            go_simp
            refine hK.out _ _ (by first | exact True.intro) (fun hHeld => ?_)
            replace hH := Lib.hid hHeld
            clear hK K hHeld
            try simp only [Act.put]
            refine tk (i := 13) (oi := ⟨some 17, .fieldAddr 28 (.tmp 1) 13, 0, "law.go:27", #[⟨0, .phase⟩, ⟨1, .phase⟩, ⟨2, .phase⟩, ⟨3, .phase⟩, ⟨4, .phase⟩, ⟨5, .phase⟩, ⟨6, .phase⟩, ⟨7, .phase⟩, ⟨8, .phase⟩, ⟨9, .phase⟩, ⟨10, .phase⟩, ⟨11, .phase⟩, ⟨12, .phase⟩], none⟩) hH.out (by rintro w s0; go_simp <;> with_reducible rfl) ?_
            simp only [Act.put, sA, sB, sC]
            refine rdy (i := 14) (oi := ⟨none, .store 9 (.tmp 17) (.tmp 14), 0, "law.go:27", #[⟨13, .data⟩, ⟨8, .data⟩, ⟨12, .chain⟩, ⟨0, .phase⟩, ⟨1, .phase⟩, ⟨2, .phase⟩, ⟨3, .phase⟩, ⟨4, .phase⟩, ⟨5, .phase⟩, ⟨6, .phase⟩, ⟨7, .phase⟩, ⟨8, .phase⟩, ⟨9, .phase⟩, ⟨10, .phase⟩, ⟨11, .phase⟩, ⟨12, .phase⟩], none⟩) (fun K hK => ?_)
            go_simp
            refine hK.out _ _ (by first | exact True.intro) (fun hHeld => ?_)
            replace hH := Lib.hid hHeld
            clear hK K hHeld
            try simp only [Act.put]
            refine wpAnyH_done (by kernel_rfl) ?_ _
            go_wp2_with fail
            go_meet
            exact ⟨rfl, HV.out.symm⟩
          · go_simp
            refine hK.out _ _ (by first | exact True.intro) (fun hHeld => ?_)
            replace hH := Lib.hid hHeld
            clear hK K hHeld
            try simp only [Act.put, sA, sB, sC]
            refine tk (i := 9) (oi := ⟨some 15, .fieldAddr 28 (.tmp 1) 9, 0, "law.go:27", #[⟨0, .phase⟩, ⟨1, .phase⟩, ⟨2, .phase⟩, ⟨3, .phase⟩, ⟨4, .phase⟩, { on := 5, ground := Go.Ground.textOnly Go.Departure.lateStoresUnsure }, ⟨6, .phase⟩, ⟨7, .phase⟩, { on := 8, ground := Go.Ground.textOnly Go.Departure.lateStoresUnsure }], none⟩) hH.out (by rintro w s0; go_simp <;> with_reducible rfl) ?_
            simp only [Act.put, sA, sB, sC]
            refine rdy (i := 5) (oi := ⟨some 11, .call ⟨.value (.func 29), #[.tmp 10, .const (Go.Value.int Go.IntKind.i64 20)], #[9, 3]⟩, 9, "law.go:27", #[⟨4, .data⟩, ⟨2, .chain⟩], none⟩) (fun K hK => ?_)
            go_simp
            refine (HO20.out _).mono ?_
            rintro r w11 ⟨rfl, rfl⟩
            go_wp2_with fail
            refine hK.out _ _ (by first | exact True.intro) (fun hHeld => ?_)
            replace hH := Lib.hid hHeld
            clear hK K hHeld
            try simp only [Act.put, sA, sB, sC]
            refine rdy (i := 8) (oi := ⟨some 14, .call ⟨.value (.func 29), #[.tmp 13, .const (Go.Value.int Go.IntKind.i64 70)], #[9, 3]⟩, 9, "law.go:27", #[⟨7, .data⟩, ⟨5, .chain⟩], none⟩) (fun K hK => ?_)
            go_simp
            refine (HS70.out _).mono ?_
            rintro r w11 ⟨rfl, rfl⟩
            go_wp2_with fail
            refine hK.out _ _ (by first | exact True.intro) (fun hHeld => ?_)
            replace hH := Lib.hid hHeld
            clear hK K hHeld
            try simp only [Act.put, sA, sB, sC]
            refine rdy (i := 10) (oi := ⟨none, .store 9 (.tmp 15) (.tmp 8), 0, "law.go:27", #[⟨9, .data⟩, ⟨2, .data⟩, ⟨8, .chain⟩, ⟨0, .phase⟩, ⟨1, .phase⟩, ⟨2, .phase⟩, ⟨3, .phase⟩, ⟨4, .phase⟩, { on := 5, ground := Go.Ground.textOnly Go.Departure.lateStoresUnsure }, ⟨6, .phase⟩, ⟨7, .phase⟩, { on := 8, ground := Go.Ground.textOnly Go.Departure.lateStoresUnsure }], none⟩) (fun K hK => ?_)
            go_simp
            refine hK.out _ _ (by first | exact True.intro) (fun hHeld => ?_)
            replace hH := Lib.hid hHeld
            clear hK K hHeld
            try simp only [Act.put]
            refine tk (i := 11) (oi := ⟨some 16, .fieldAddr 28 (.tmp 1) 10, 0, "law.go:27", #[⟨0, .phase⟩, ⟨1, .phase⟩, ⟨2, .phase⟩, ⟨3, .phase⟩, ⟨4, .phase⟩, ⟨5, .phase⟩, ⟨6, .phase⟩, ⟨7, .phase⟩, { on := 8, ground := Go.Ground.textOnly Go.Departure.lateStoresUnsure }, ⟨9, .phase⟩, ⟨10, .phase⟩], none⟩) hH.out (by rintro w s0; go_simp <;> with_reducible rfl) ?_
            simp only [Act.put, sA, sB, sC]
            refine rdy (i := 12) (oi := ⟨none, .store 9 (.tmp 16) (.tmp 11), 0, "law.go:27", #[⟨11, .data⟩, ⟨5, .data⟩, ⟨10, .chain⟩, ⟨0, .phase⟩, ⟨1, .phase⟩, ⟨2, .phase⟩, ⟨3, .phase⟩, ⟨4, .phase⟩, ⟨5, .phase⟩, ⟨6, .phase⟩, ⟨7, .phase⟩, { on := 8, ground := Go.Ground.textOnly Go.Departure.lateStoresUnsure }, ⟨9, .phase⟩, ⟨10, .phase⟩], none⟩) (fun K hK => ?_)
            go_simp
            refine hK.out _ _ (by first | exact True.intro) (fun hHeld => ?_)
            replace hH := Lib.hid hHeld
            clear hK K hHeld
            try simp only [Act.put]
            refine tk (i := 13) (oi := ⟨some 17, .fieldAddr 28 (.tmp 1) 13, 0, "law.go:27", #[⟨0, .phase⟩, ⟨1, .phase⟩, ⟨2, .phase⟩, ⟨3, .phase⟩, ⟨4, .phase⟩, ⟨5, .phase⟩, ⟨6, .phase⟩, ⟨7, .phase⟩, ⟨8, .phase⟩, ⟨9, .phase⟩, ⟨10, .phase⟩, ⟨11, .phase⟩, ⟨12, .phase⟩], none⟩) hH.out (by rintro w s0; go_simp <;> with_reducible rfl) ?_
            simp only [Act.put, sA, sB, sC]
            refine rdy (i := 14) (oi := ⟨none, .store 9 (.tmp 17) (.tmp 14), 0, "law.go:27", #[⟨13, .data⟩, ⟨8, .data⟩, ⟨12, .chain⟩, ⟨0, .phase⟩, ⟨1, .phase⟩, ⟨2, .phase⟩, ⟨3, .phase⟩, ⟨4, .phase⟩, ⟨5, .phase⟩, ⟨6, .phase⟩, ⟨7, .phase⟩, ⟨8, .phase⟩, ⟨9, .phase⟩, ⟨10, .phase⟩, ⟨11, .phase⟩, ⟨12, .phase⟩], none⟩) (fun K hK => ?_)
            go_simp
            refine hK.out _ _ (by first | exact True.intro) (fun hHeld => ?_)
            replace hH := Lib.hid hHeld
            clear hK K hHeld
            try simp only [Act.put]
            refine wpAnyH_done (by kernel_rfl) ?_ _
            go_wp2_with fail
            go_meet
            exact ⟨rfl, HV.out.symm⟩
        · go_simp
          refine hK.out _ _ (by first | exact True.intro) (fun hHeld => ?_)
          replace hH := Lib.hid hHeld
          clear hK K hHeld
          try simp only [Act.put, sA, sB, sC]
          refine rdy (i := 2) (oi := ⟨some 8, .call ⟨.value (.func 29), #[.tmp 7, .const (Go.Value.int Go.IntKind.i64 20)], #[9, 3]⟩, 9, "law.go:27", #[⟨1, .data⟩], none⟩) (fun K hK => ?_)
          go_simp
          refine (HS20.out _).mono ?_
          rintro r w11 ⟨rfl, rfl⟩
          go_wp2_with fail
          refine hK.out _ _ (by first | exact True.intro) (fun hHeld => ?_)
          replace hH := Lib.hid hHeld
          clear hK K hHeld
          try simp only [Act.put, sA, sB, sC]
          refine tk (i := 9) (oi := ⟨some 15, .fieldAddr 28 (.tmp 1) 9, 0, "law.go:27", #[⟨0, .phase⟩, ⟨1, .phase⟩, ⟨2, .phase⟩, ⟨3, .phase⟩, ⟨4, .phase⟩, { on := 5, ground := Go.Ground.textOnly Go.Departure.lateStoresUnsure }, ⟨6, .phase⟩, ⟨7, .phase⟩, { on := 8, ground := Go.Ground.textOnly Go.Departure.lateStoresUnsure }], none⟩) hH.out (by rintro w s0; go_simp <;> with_reducible rfl) ?_
          simp only [Act.put, sA, sB, sC]
          refine rdy (i := 5) (oi := ⟨some 11, .call ⟨.value (.func 29), #[.tmp 10, .const (Go.Value.int Go.IntKind.i64 20)], #[9, 3]⟩, 9, "law.go:27", #[⟨4, .data⟩, ⟨2, .chain⟩], none⟩) (fun K hK => ?_)
          go_simp
          refine (HO20.out _).mono ?_
          rintro r w11 ⟨rfl, rfl⟩
          go_wp2_with fail
          refine hK.out _ _ (by first | exact True.intro) (fun hHeld => ?_)
          replace hH := Lib.hid hHeld
          clear hK K hHeld
          try simp only [Act.put, sA, sB, sC]
          refine rdy (i := 8) (oi := ⟨some 14, .call ⟨.value (.func 29), #[.tmp 13, .const (Go.Value.int Go.IntKind.i64 70)], #[9, 3]⟩, 9, "law.go:27", #[⟨7, .data⟩, ⟨5, .chain⟩], none⟩) (fun K hK => ?_)
          go_simp
          refine (HS70.out _).mono ?_
          rintro r w11 ⟨rfl, rfl⟩
          go_wp2_with fail
          refine hK.out _ _ (by first | exact True.intro) (fun hHeld => ?_)
          replace hH := Lib.hid hHeld
          clear hK K hHeld
          try simp only [Act.put, sA, sB, sC]
          refine rdy (i := 10) (oi := ⟨none, .store 9 (.tmp 15) (.tmp 8), 0, "law.go:27", #[⟨9, .data⟩, ⟨2, .data⟩, ⟨8, .chain⟩, ⟨0, .phase⟩, ⟨1, .phase⟩, ⟨2, .phase⟩, ⟨3, .phase⟩, ⟨4, .phase⟩, { on := 5, ground := Go.Ground.textOnly Go.Departure.lateStoresUnsure }, ⟨6, .phase⟩, ⟨7, .phase⟩, { on := 8, ground := Go.Ground.textOnly Go.Departure.lateStoresUnsure }], none⟩) (fun K hK => ?_)
          go_simp
          refine hK.out _ _ (by first | exact True.intro) (fun hHeld => ?_)
          replace hH := Lib.hid hHeld
          clear hK K hHeld
          try simp only [Act.put]
          refine tk (i := 11) (oi := ⟨some 16, .fieldAddr 28 (.tmp 1) 10, 0, "law.go:27", #[⟨0, .phase⟩, ⟨1, .phase⟩, ⟨2, .phase⟩, ⟨3, .phase⟩, ⟨4, .phase⟩, ⟨5, .phase⟩, ⟨6, .phase⟩, ⟨7, .phase⟩, { on := 8, ground := Go.Ground.textOnly Go.Departure.lateStoresUnsure }, ⟨9, .phase⟩, ⟨10, .phase⟩], none⟩) hH.out (by rintro w s0; go_simp <;> with_reducible rfl) ?_
          simp only [Act.put, sA, sB, sC]
          refine rdy (i := 12) (oi := ⟨none, .store 9 (.tmp 16) (.tmp 11), 0, "law.go:27", #[⟨11, .data⟩, ⟨5, .data⟩, ⟨10, .chain⟩, ⟨0, .phase⟩, ⟨1, .phase⟩, ⟨2, .phase⟩, ⟨3, .phase⟩, ⟨4, .phase⟩, ⟨5, .phase⟩, ⟨6, .phase⟩, ⟨7, .phase⟩, { on := 8, ground := Go.Ground.textOnly Go.Departure.lateStoresUnsure }, ⟨9, .phase⟩, ⟨10, .phase⟩], none⟩) (fun K hK => ?_)
          go_simp
          refine hK.out _ _ (by first | exact True.intro) (fun hHeld => ?_)
          replace hH := Lib.hid hHeld
          clear hK K hHeld
          try simp only [Act.put]
          refine tk (i := 13) (oi := ⟨some 17, .fieldAddr 28 (.tmp 1) 13, 0, "law.go:27", #[⟨0, .phase⟩, ⟨1, .phase⟩, ⟨2, .phase⟩, ⟨3, .phase⟩, ⟨4, .phase⟩, ⟨5, .phase⟩, ⟨6, .phase⟩, ⟨7, .phase⟩, ⟨8, .phase⟩, ⟨9, .phase⟩, ⟨10, .phase⟩, ⟨11, .phase⟩, ⟨12, .phase⟩], none⟩) hH.out (by rintro w s0; go_simp <;> with_reducible rfl) ?_
          simp only [Act.put, sA, sB, sC]
          refine rdy (i := 14) (oi := ⟨none, .store 9 (.tmp 17) (.tmp 14), 0, "law.go:27", #[⟨13, .data⟩, ⟨8, .data⟩, ⟨12, .chain⟩, ⟨0, .phase⟩, ⟨1, .phase⟩, ⟨2, .phase⟩, ⟨3, .phase⟩, ⟨4, .phase⟩, ⟨5, .phase⟩, ⟨6, .phase⟩, ⟨7, .phase⟩, ⟨8, .phase⟩, ⟨9, .phase⟩, ⟨10, .phase⟩, ⟨11, .phase⟩, ⟨12, .phase⟩], none⟩) (fun K hK => ?_)
          go_simp
          refine hK.out _ _ (by first | exact True.intro) (fun hHeld => ?_)
          replace hH := Lib.hid hHeld
          clear hK K hHeld
          try simp only [Act.put]
          refine wpAnyH_done (by kernel_rfl) ?_ _
          go_wp2_with fail
          go_meet
          exact ⟨rfl, HV.out.symm⟩
      · go_simp
        refine hK.out _ _ (by first | exact True.intro) (fun hHeld => ?_)
        replace hH := Lib.hid hHeld
        clear hK K hHeld
        try simp only [Act.put, sA, sB, sC]
        refine rdy (i := 1) (oi := ⟨some 7, .load 9 (.tmp 6), 9, "law.go:27", #[⟨0, .data⟩], none⟩) (fun K hK => ?_)
        go_simp
        refine hK.out _ _ (by first | exact True.intro) (fun hHeld => ?_)
        replace hH := Lib.hid hHeld
        clear hK K hHeld
        try simp only [Act.put, sA, sB, sC]
        refine rdy (i := 2) (oi := ⟨some 8, .call ⟨.value (.func 29), #[.tmp 7, .const (Go.Value.int Go.IntKind.i64 20)], #[9, 3]⟩, 9, "law.go:27", #[⟨1, .data⟩], none⟩) (fun K hK => ?_)
        go_simp
        refine (HS20.out _).mono ?_
        rintro r w11 ⟨rfl, rfl⟩
        go_wp2_with fail
        refine hK.out _ _ (by first | exact True.intro) (fun hHeld => ?_)
        replace hH := Lib.hid hHeld
        clear hK K hHeld
        try simp only [Act.put, sA, sB, sC]
        refine tk (i := 9) (oi := ⟨some 15, .fieldAddr 28 (.tmp 1) 9, 0, "law.go:27", #[⟨0, .phase⟩, ⟨1, .phase⟩, ⟨2, .phase⟩, ⟨3, .phase⟩, ⟨4, .phase⟩, { on := 5, ground := Go.Ground.textOnly Go.Departure.lateStoresUnsure }, ⟨6, .phase⟩, ⟨7, .phase⟩, { on := 8, ground := Go.Ground.textOnly Go.Departure.lateStoresUnsure }], none⟩) hH.out (by rintro w s0; go_simp <;> with_reducible rfl) ?_
        simp only [Act.put, sA, sB, sC]
        refine rdy (i := 5) (oi := ⟨some 11, .call ⟨.value (.func 29), #[.tmp 10, .const (Go.Value.int Go.IntKind.i64 20)], #[9, 3]⟩, 9, "law.go:27", #[⟨4, .data⟩, ⟨2, .chain⟩], none⟩) (fun K hK => ?_)
        go_simp
        refine (HO20.out _).mono ?_
        rintro r w11 ⟨rfl, rfl⟩
        go_wp2_with fail
        refine hK.out _ _ (by first | exact True.intro) (fun hHeld => ?_)
        replace hH := Lib.hid hHeld
        clear hK K hHeld
        try simp only [Act.put, sA, sB, sC]
        refine rdy (i := 8) (oi := ⟨some 14, .call ⟨.value (.func 29), #[.tmp 13, .const (Go.Value.int Go.IntKind.i64 70)], #[9, 3]⟩, 9, "law.go:27", #[⟨7, .data⟩, ⟨5, .chain⟩], none⟩) (fun K hK => ?_)
        go_simp
        refine (HS70.out _).mono ?_
        rintro r w11 ⟨rfl, rfl⟩
        go_wp2_with fail
        refine hK.out _ _ (by first | exact True.intro) (fun hHeld => ?_)
        replace hH := Lib.hid hHeld
        clear hK K hHeld
        try simp only [Act.put, sA, sB, sC]
        refine rdy (i := 10) (oi := ⟨none, .store 9 (.tmp 15) (.tmp 8), 0, "law.go:27", #[⟨9, .data⟩, ⟨2, .data⟩, ⟨8, .chain⟩, ⟨0, .phase⟩, ⟨1, .phase⟩, ⟨2, .phase⟩, ⟨3, .phase⟩, ⟨4, .phase⟩, { on := 5, ground := Go.Ground.textOnly Go.Departure.lateStoresUnsure }, ⟨6, .phase⟩, ⟨7, .phase⟩, { on := 8, ground := Go.Ground.textOnly Go.Departure.lateStoresUnsure }], none⟩) (fun K hK => ?_)
        go_simp
        refine hK.out _ _ (by first | exact True.intro) (fun hHeld => ?_)
        replace hH := Lib.hid hHeld
        clear hK K hHeld
        try simp only [Act.put]
        refine tk (i := 11) (oi := ⟨some 16, .fieldAddr 28 (.tmp 1) 10, 0, "law.go:27", #[⟨0, .phase⟩, ⟨1, .phase⟩, ⟨2, .phase⟩, ⟨3, .phase⟩, ⟨4, .phase⟩, ⟨5, .phase⟩, ⟨6, .phase⟩, ⟨7, .phase⟩, { on := 8, ground := Go.Ground.textOnly Go.Departure.lateStoresUnsure }, ⟨9, .phase⟩, ⟨10, .phase⟩], none⟩) hH.out (by rintro w s0; go_simp <;> with_reducible rfl) ?_
        simp only [Act.put, sA, sB, sC]
        refine rdy (i := 12) (oi := ⟨none, .store 9 (.tmp 16) (.tmp 11), 0, "law.go:27", #[⟨11, .data⟩, ⟨5, .data⟩, ⟨10, .chain⟩, ⟨0, .phase⟩, ⟨1, .phase⟩, ⟨2, .phase⟩, ⟨3, .phase⟩, ⟨4, .phase⟩, ⟨5, .phase⟩, ⟨6, .phase⟩, ⟨7, .phase⟩, { on := 8, ground := Go.Ground.textOnly Go.Departure.lateStoresUnsure }, ⟨9, .phase⟩, ⟨10, .phase⟩], none⟩) (fun K hK => ?_)
        go_simp
        refine hK.out _ _ (by first | exact True.intro) (fun hHeld => ?_)
        replace hH := Lib.hid hHeld
        clear hK K hHeld
        try simp only [Act.put]
        refine tk (i := 13) (oi := ⟨some 17, .fieldAddr 28 (.tmp 1) 13, 0, "law.go:27", #[⟨0, .phase⟩, ⟨1, .phase⟩, ⟨2, .phase⟩, ⟨3, .phase⟩, ⟨4, .phase⟩, ⟨5, .phase⟩, ⟨6, .phase⟩, ⟨7, .phase⟩, ⟨8, .phase⟩, ⟨9, .phase⟩, ⟨10, .phase⟩, ⟨11, .phase⟩, ⟨12, .phase⟩], none⟩) hH.out (by rintro w s0; go_simp <;> with_reducible rfl) ?_
        simp only [Act.put, sA, sB, sC]
        refine rdy (i := 14) (oi := ⟨none, .store 9 (.tmp 17) (.tmp 14), 0, "law.go:27", #[⟨13, .data⟩, ⟨8, .data⟩, ⟨12, .chain⟩, ⟨0, .phase⟩, ⟨1, .phase⟩, ⟨2, .phase⟩, ⟨3, .phase⟩, ⟨4, .phase⟩, ⟨5, .phase⟩, ⟨6, .phase⟩, ⟨7, .phase⟩, ⟨8, .phase⟩, ⟨9, .phase⟩, ⟨10, .phase⟩, ⟨11, .phase⟩, ⟨12, .phase⟩], none⟩) (fun K hK => ?_)
        go_simp
        refine hK.out _ _ (by first | exact True.intro) (fun hHeld => ?_)
        replace hH := Lib.hid hHeld
        clear hK K hHeld
        try simp only [Act.put]
        refine wpAnyH_done (by kernel_rfl) ?_ _
        go_wp2_with fail
        go_meet
        exact ⟨rfl, HV.out.symm⟩
    · go_simp
      refine hK.out _ _ (by first | exact True.intro) (fun hHeld => ?_)
      replace hH := Lib.hid hHeld
      clear hK K hHeld
      try simp only [Act.put, sA, sB, sC]
      refine wpAnyH_ready (rs := [1, 4]) (by kernel_rfl) (by simp) ?_
      refine AllReadyH.cons (o := ⟨some 7, .load 9 (.tmp 6), 9, "law.go:27", #[⟨0, .data⟩], none⟩) rfl (fun K hK => ?_) (AllReadyH.cons (o := ⟨some 10, .load 9 (.tmp 9), 9, "law.go:27", #[⟨3, .data⟩], none⟩) rfl (fun K hK => ?_) (AllReadyH.nil))
      · go_simp
        refine hK.out _ _ (by first | exact True.intro) (fun hHeld => ?_)
        replace hH := Lib.hid hHeld
        clear hK K hHeld
        try simp only [Act.put, sA, sB, sC]
        refine wpAnyH_ready (rs := [2, 4]) (by kernel_rfl) (by simp) ?_
        refine AllReadyH.cons (o := ⟨some 8, .call ⟨.value (.func 29), #[.tmp 7, .const (Go.Value.int Go.IntKind.i64 20)], #[9, 3]⟩, 9, "law.go:27", #[⟨1, .data⟩], none⟩) rfl (fun K hK => ?_) (AllReadyH.cons (o := ⟨some 10, .load 9 (.tmp 9), 9, "law.go:27", #[⟨3, .data⟩], none⟩) rfl (fun K hK => ?_) (AllReadyH.nil))
        · go_simp
          refine (HS20.out _).mono ?_
          rintro r w11 ⟨rfl, rfl⟩
          go_wp2_with fail
          refine hK.out _ _ (by first | exact True.intro) (fun hHeld => ?_)
          replace hH := Lib.hid hHeld
          clear hK K hHeld
          try simp only [Act.put, sA, sB, sC]
          refine rdy (i := 4) (oi := ⟨some 10, .load 9 (.tmp 9), 9, "law.go:27", #[⟨3, .data⟩], none⟩) (fun K hK => ?_)
          go_simp
          refine hK.out _ _ (by first | exact True.intro) (fun hHeld => ?_)
          replace hH := Lib.hid hHeld
          clear hK K hHeld
          try simp only [Act.put, sA, sB, sC]
          refine tk (i := 9) (oi := ⟨some 15, .fieldAddr 28 (.tmp 1) 9, 0, "law.go:27", #[⟨0, .phase⟩, ⟨1, .phase⟩, ⟨2, .phase⟩, ⟨3, .phase⟩, ⟨4, .phase⟩, { on := 5, ground := Go.Ground.textOnly Go.Departure.lateStoresUnsure }, ⟨6, .phase⟩, ⟨7, .phase⟩, { on := 8, ground := Go.Ground.textOnly Go.Departure.lateStoresUnsure }], none⟩) hH.out (by rintro w s0; go_simp <;> with_reducible rfl) ?_
          simp only [Act.put, sA, sB, sC]
          refine rdy (i := 5) (oi := ⟨some 11, .call ⟨.value (.func 29), #[.tmp 10, .const (Go.Value.int Go.IntKind.i64 20)], #[9, 3]⟩, 9, "law.go:27", #[⟨4, .data⟩, ⟨2, .chain⟩], none⟩) (fun K hK => ?_)
          go_simp
          refine (HO20.out _).mono ?_
          rintro r w11 ⟨rfl, rfl⟩
          go_wp2_with fail
          refine hK.out _ _ (by first | exact True.intro) (fun hHeld => ?_)
          replace hH := Lib.hid hHeld
          clear hK K hHeld
          try simp only [Act.put, sA, sB, sC]
          refine rdy (i := 8) (oi := ⟨some 14, .call ⟨.value (.func 29), #[.tmp 13, .const (Go.Value.int Go.IntKind.i64 70)], #[9, 3]⟩, 9, "law.go:27", #[⟨7, .data⟩, ⟨5, .chain⟩], none⟩) (fun K hK => ?_)
          go_simp
          refine (HS70.out _).mono ?_
          rintro r w11 ⟨rfl, rfl⟩
          go_wp2_with fail
          refine hK.out _ _ (by first | exact True.intro) (fun hHeld => ?_)
          replace hH := Lib.hid hHeld
          clear hK K hHeld
          try simp only [Act.put, sA, sB, sC]
          refine rdy (i := 10) (oi := ⟨none, .store 9 (.tmp 15) (.tmp 8), 0, "law.go:27", #[⟨9, .data⟩, ⟨2, .data⟩, ⟨8, .chain⟩, ⟨0, .phase⟩, ⟨1, .phase⟩, ⟨2, .phase⟩, ⟨3, .phase⟩, ⟨4, .phase⟩, { on := 5, ground := Go.Ground.textOnly Go.Departure.lateStoresUnsure }, ⟨6, .phase⟩, ⟨7, .phase⟩, { on := 8, ground := Go.Ground.textOnly Go.Departure.lateStoresUnsure }], none⟩) (fun K hK => ?_)
          go_simp
          refine hK.out _ _ (by first | exact True.intro) (fun hHeld => ?_)
          replace hH := Lib.hid hHeld
          clear hK K hHeld
          try simp only [Act.put]
          refine tk (i := 11) (oi := ⟨some 16, .fieldAddr 28 (.tmp 1) 10, 0, "law.go:27", #[⟨0, .phase⟩, ⟨1, .phase⟩, ⟨2, .phase⟩, ⟨3, .phase⟩, ⟨4, .phase⟩, ⟨5, .phase⟩, ⟨6, .phase⟩, ⟨7, .phase⟩, { on := 8, ground := Go.Ground.textOnly Go.Departure.lateStoresUnsure }, ⟨9, .phase⟩, ⟨10, .phase⟩], none⟩) hH.out (by rintro w s0; go_simp <;> with_reducible rfl) ?_
          simp only [Act.put, sA, sB, sC]
          refine rdy (i := 12) (oi := ⟨none, .store 9 (.tmp 16) (.tmp 11), 0, "law.go:27", #[⟨11, .data⟩, ⟨5, .data⟩, ⟨10, .chain⟩, ⟨0, .phase⟩, ⟨1, .phase⟩, ⟨2, .phase⟩, ⟨3, .phase⟩, ⟨4, .phase⟩, ⟨5, .phase⟩, ⟨6, .phase⟩, ⟨7, .phase⟩, { on := 8, ground := Go.Ground.textOnly Go.Departure.lateStoresUnsure }, ⟨9, .phase⟩, ⟨10, .phase⟩], none⟩) (fun K hK => ?_)
          go_simp
          refine hK.out _ _ (by first | exact True.intro) (fun hHeld => ?_)
          replace hH := Lib.hid hHeld
          clear hK K hHeld
          try simp only [Act.put]
          refine tk (i := 13) (oi := ⟨some 17, .fieldAddr 28 (.tmp 1) 13, 0, "law.go:27", #[⟨0, .phase⟩, ⟨1, .phase⟩, ⟨2, .phase⟩, ⟨3, .phase⟩, ⟨4, .phase⟩, ⟨5, .phase⟩, ⟨6, .phase⟩, ⟨7, .phase⟩, ⟨8, .phase⟩, ⟨9, .phase⟩, ⟨10, .phase⟩, ⟨11, .phase⟩, ⟨12, .phase⟩], none⟩) hH.out (by rintro w s0; go_simp <;> with_reducible rfl) ?_
          simp only [Act.put, sA, sB, sC]
          refine rdy (i := 14) (oi := ⟨none, .store 9 (.tmp 17) (.tmp 14), 0, "law.go:27", #[⟨13, .data⟩, ⟨8, .data⟩, ⟨12, .chain⟩, ⟨0, .phase⟩, ⟨1, .phase⟩, ⟨2, .phase⟩, ⟨3, .phase⟩, ⟨4, .phase⟩, ⟨5, .phase⟩, ⟨6, .phase⟩, ⟨7, .phase⟩, ⟨8, .phase⟩, ⟨9, .phase⟩, ⟨10, .phase⟩, ⟨11, .phase⟩, ⟨12, .phase⟩], none⟩) (fun K hK => ?_)
          go_simp
          refine hK.out _ _ (by first | exact True.intro) (fun hHeld => ?_)
          replace hH := Lib.hid hHeld
          clear hK K hHeld
          try simp only [Act.put]
          refine wpAnyH_done (by kernel_rfl) ?_ _
          go_wp2_with fail
          go_meet
          exact ⟨rfl, HV.out.symm⟩
        · go_simp
          refine hK.out _ _ (by first | exact True.intro) (fun hHeld => ?_)
          replace hH := Lib.hid hHeld
          clear hK K hHeld
          try simp only [Act.put, sA, sB, sC]
          refine rdy (i := 2) (oi := ⟨some 8, .call ⟨.value (.func 29), #[.tmp 7, .const (Go.Value.int Go.IntKind.i64 20)], #[9, 3]⟩, 9, "law.go:27", #[⟨1, .data⟩], none⟩) (fun K hK => ?_)
          go_simp
          refine (HS20.out _).mono ?_
          rintro r w11 ⟨rfl, rfl⟩
          go_wp2_with fail
          refine hK.out _ _ (by first | exact True.intro) (fun hHeld => ?_)
          replace hH := Lib.hid hHeld
          clear hK K hHeld
          try simp only [Act.put, sA, sB, sC]
          refine tk (i := 9) (oi := ⟨some 15, .fieldAddr 28 (.tmp 1) 9, 0, "law.go:27", #[⟨0, .phase⟩, ⟨1, .phase⟩, ⟨2, .phase⟩, ⟨3, .phase⟩, ⟨4, .phase⟩, { on := 5, ground := Go.Ground.textOnly Go.Departure.lateStoresUnsure }, ⟨6, .phase⟩, ⟨7, .phase⟩, { on := 8, ground := Go.Ground.textOnly Go.Departure.lateStoresUnsure }], none⟩) hH.out (by rintro w s0; go_simp <;> with_reducible rfl) ?_
          simp only [Act.put, sA, sB, sC]
          refine rdy (i := 5) (oi := ⟨some 11, .call ⟨.value (.func 29), #[.tmp 10, .const (Go.Value.int Go.IntKind.i64 20)], #[9, 3]⟩, 9, "law.go:27", #[⟨4, .data⟩, ⟨2, .chain⟩], none⟩) (fun K hK => ?_)
          go_simp
          refine (HO20.out _).mono ?_
          rintro r w11 ⟨rfl, rfl⟩
          go_wp2_with fail
          refine hK.out _ _ (by first | exact True.intro) (fun hHeld => ?_)
          replace hH := Lib.hid hHeld
          clear hK K hHeld
          try simp only [Act.put, sA, sB, sC]
          refine rdy (i := 8) (oi := ⟨some 14, .call ⟨.value (.func 29), #[.tmp 13, .const (Go.Value.int Go.IntKind.i64 70)], #[9, 3]⟩, 9, "law.go:27", #[⟨7, .data⟩, ⟨5, .chain⟩], none⟩) (fun K hK => ?_)
          go_simp
          refine (HS70.out _).mono ?_
          rintro r w11 ⟨rfl, rfl⟩
          go_wp2_with fail
          refine hK.out _ _ (by first | exact True.intro) (fun hHeld => ?_)
          replace hH := Lib.hid hHeld
          clear hK K hHeld
          try simp only [Act.put, sA, sB, sC]
          refine rdy (i := 10) (oi := ⟨none, .store 9 (.tmp 15) (.tmp 8), 0, "law.go:27", #[⟨9, .data⟩, ⟨2, .data⟩, ⟨8, .chain⟩, ⟨0, .phase⟩, ⟨1, .phase⟩, ⟨2, .phase⟩, ⟨3, .phase⟩, ⟨4, .phase⟩, { on := 5, ground := Go.Ground.textOnly Go.Departure.lateStoresUnsure }, ⟨6, .phase⟩, ⟨7, .phase⟩, { on := 8, ground := Go.Ground.textOnly Go.Departure.lateStoresUnsure }], none⟩) (fun K hK => ?_)
          go_simp
          refine hK.out _ _ (by first | exact True.intro) (fun hHeld => ?_)
          replace hH := Lib.hid hHeld
          clear hK K hHeld
          try simp only [Act.put]
          refine tk (i := 11) (oi := ⟨some 16, .fieldAddr 28 (.tmp 1) 10, 0, "law.go:27", #[⟨0, .phase⟩, ⟨1, .phase⟩, ⟨2, .phase⟩, ⟨3, .phase⟩, ⟨4, .phase⟩, ⟨5, .phase⟩, ⟨6, .phase⟩, ⟨7, .phase⟩, { on := 8, ground := Go.Ground.textOnly Go.Departure.lateStoresUnsure }, ⟨9, .phase⟩, ⟨10, .phase⟩], none⟩) hH.out (by rintro w s0; go_simp <;> with_reducible rfl) ?_
          simp only [Act.put, sA, sB, sC]
          refine rdy (i := 12) (oi := ⟨none, .store 9 (.tmp 16) (.tmp 11), 0, "law.go:27", #[⟨11, .data⟩, ⟨5, .data⟩, ⟨10, .chain⟩, ⟨0, .phase⟩, ⟨1, .phase⟩, ⟨2, .phase⟩, ⟨3, .phase⟩, ⟨4, .phase⟩, ⟨5, .phase⟩, ⟨6, .phase⟩, ⟨7, .phase⟩, { on := 8, ground := Go.Ground.textOnly Go.Departure.lateStoresUnsure }, ⟨9, .phase⟩, ⟨10, .phase⟩], none⟩) (fun K hK => ?_)
          go_simp
          refine hK.out _ _ (by first | exact True.intro) (fun hHeld => ?_)
          replace hH := Lib.hid hHeld
          clear hK K hHeld
          try simp only [Act.put]
          refine tk (i := 13) (oi := ⟨some 17, .fieldAddr 28 (.tmp 1) 13, 0, "law.go:27", #[⟨0, .phase⟩, ⟨1, .phase⟩, ⟨2, .phase⟩, ⟨3, .phase⟩, ⟨4, .phase⟩, ⟨5, .phase⟩, ⟨6, .phase⟩, ⟨7, .phase⟩, ⟨8, .phase⟩, ⟨9, .phase⟩, ⟨10, .phase⟩, ⟨11, .phase⟩, ⟨12, .phase⟩], none⟩) hH.out (by rintro w s0; go_simp <;> with_reducible rfl) ?_
          simp only [Act.put, sA, sB, sC]
          refine rdy (i := 14) (oi := ⟨none, .store 9 (.tmp 17) (.tmp 14), 0, "law.go:27", #[⟨13, .data⟩, ⟨8, .data⟩, ⟨12, .chain⟩, ⟨0, .phase⟩, ⟨1, .phase⟩, ⟨2, .phase⟩, ⟨3, .phase⟩, ⟨4, .phase⟩, ⟨5, .phase⟩, ⟨6, .phase⟩, ⟨7, .phase⟩, ⟨8, .phase⟩, ⟨9, .phase⟩, ⟨10, .phase⟩, ⟨11, .phase⟩, ⟨12, .phase⟩], none⟩) (fun K hK => ?_)
          go_simp
          refine hK.out _ _ (by first | exact True.intro) (fun hHeld => ?_)
          replace hH := Lib.hid hHeld
          clear hK K hHeld
          try simp only [Act.put]
          refine wpAnyH_done (by kernel_rfl) ?_ _
          go_wp2_with fail
          go_meet
          exact ⟨rfl, HV.out.symm⟩
      · go_simp
        refine hK.out _ _ (by first | exact True.intro) (fun hHeld => ?_)
        replace hH := Lib.hid hHeld
        clear hK K hHeld
        try simp only [Act.put, sA, sB, sC]
        refine rdy (i := 1) (oi := ⟨some 7, .load 9 (.tmp 6), 9, "law.go:27", #[⟨0, .data⟩], none⟩) (fun K hK => ?_)
        go_simp
        refine hK.out _ _ (by first | exact True.intro) (fun hHeld => ?_)
        replace hH := Lib.hid hHeld
        clear hK K hHeld
        try simp only [Act.put, sA, sB, sC]
        refine rdy (i := 2) (oi := ⟨some 8, .call ⟨.value (.func 29), #[.tmp 7, .const (Go.Value.int Go.IntKind.i64 20)], #[9, 3]⟩, 9, "law.go:27", #[⟨1, .data⟩], none⟩) (fun K hK => ?_)
        go_simp
        refine (HS20.out _).mono ?_
        rintro r w11 ⟨rfl, rfl⟩
        go_wp2_with fail
        refine hK.out _ _ (by first | exact True.intro) (fun hHeld => ?_)
        replace hH := Lib.hid hHeld
        clear hK K hHeld
        try simp only [Act.put, sA, sB, sC]
        refine tk (i := 9) (oi := ⟨some 15, .fieldAddr 28 (.tmp 1) 9, 0, "law.go:27", #[⟨0, .phase⟩, ⟨1, .phase⟩, ⟨2, .phase⟩, ⟨3, .phase⟩, ⟨4, .phase⟩, { on := 5, ground := Go.Ground.textOnly Go.Departure.lateStoresUnsure }, ⟨6, .phase⟩, ⟨7, .phase⟩, { on := 8, ground := Go.Ground.textOnly Go.Departure.lateStoresUnsure }], none⟩) hH.out (by rintro w s0; go_simp <;> with_reducible rfl) ?_
        simp only [Act.put, sA, sB, sC]
        refine rdy (i := 5) (oi := ⟨some 11, .call ⟨.value (.func 29), #[.tmp 10, .const (Go.Value.int Go.IntKind.i64 20)], #[9, 3]⟩, 9, "law.go:27", #[⟨4, .data⟩, ⟨2, .chain⟩], none⟩) (fun K hK => ?_)
        go_simp
        refine (HO20.out _).mono ?_
        rintro r w11 ⟨rfl, rfl⟩
        go_wp2_with fail
        refine hK.out _ _ (by first | exact True.intro) (fun hHeld => ?_)
        replace hH := Lib.hid hHeld
        clear hK K hHeld
        try simp only [Act.put, sA, sB, sC]
        refine rdy (i := 8) (oi := ⟨some 14, .call ⟨.value (.func 29), #[.tmp 13, .const (Go.Value.int Go.IntKind.i64 70)], #[9, 3]⟩, 9, "law.go:27", #[⟨7, .data⟩, ⟨5, .chain⟩], none⟩) (fun K hK => ?_)
        go_simp
        refine (HS70.out _).mono ?_
        rintro r w11 ⟨rfl, rfl⟩
        go_wp2_with fail
        refine hK.out _ _ (by first | exact True.intro) (fun hHeld => ?_)
        replace hH := Lib.hid hHeld
        clear hK K hHeld
        try simp only [Act.put, sA, sB, sC]
        refine rdy (i := 10) (oi := ⟨none, .store 9 (.tmp 15) (.tmp 8), 0, "law.go:27", #[⟨9, .data⟩, ⟨2, .data⟩, ⟨8, .chain⟩, ⟨0, .phase⟩, ⟨1, .phase⟩, ⟨2, .phase⟩, ⟨3, .phase⟩, ⟨4, .phase⟩, { on := 5, ground := Go.Ground.textOnly Go.Departure.lateStoresUnsure }, ⟨6, .phase⟩, ⟨7, .phase⟩, { on := 8, ground := Go.Ground.textOnly Go.Departure.lateStoresUnsure }], none⟩) (fun K hK => ?_)
        go_simp
        refine hK.out _ _ (by first | exact True.intro) (fun hHeld => ?_)
        replace hH := Lib.hid hHeld
        clear hK K hHeld
        try simp only [Act.put]
        refine tk (i := 11) (oi := ⟨some 16, .fieldAddr 28 (.tmp 1) 10, 0, "law.go:27", #[⟨0, .phase⟩, ⟨1, .phase⟩, ⟨2, .phase⟩, ⟨3, .phase⟩, ⟨4, .phase⟩, ⟨5, .phase⟩, ⟨6, .phase⟩, ⟨7, .phase⟩, { on := 8, ground := Go.Ground.textOnly Go.Departure.lateStoresUnsure }, ⟨9, .phase⟩, ⟨10, .phase⟩], none⟩) hH.out (by rintro w s0; go_simp <;> with_reducible rfl) ?_
        simp only [Act.put, sA, sB, sC]
        refine rdy (i := 12) (oi := ⟨none, .store 9 (.tmp 16) (.tmp 11), 0, "law.go:27", #[⟨11, .data⟩, ⟨5, .data⟩, ⟨10, .chain⟩, ⟨0, .phase⟩, ⟨1, .phase⟩, ⟨2, .phase⟩, ⟨3, .phase⟩, ⟨4, .phase⟩, ⟨5, .phase⟩, ⟨6, .phase⟩, ⟨7, .phase⟩, { on := 8, ground := Go.Ground.textOnly Go.Departure.lateStoresUnsure }, ⟨9, .phase⟩, ⟨10, .phase⟩], none⟩) (fun K hK => ?_)
        go_simp
        refine hK.out _ _ (by first | exact True.intro) (fun hHeld => ?_)
        replace hH := Lib.hid hHeld
        clear hK K hHeld
        try simp only [Act.put]
        refine tk (i := 13) (oi := ⟨some 17, .fieldAddr 28 (.tmp 1) 13, 0, "law.go:27", #[⟨0, .phase⟩, ⟨1, .phase⟩, ⟨2, .phase⟩, ⟨3, .phase⟩, ⟨4, .phase⟩, ⟨5, .phase⟩, ⟨6, .phase⟩, ⟨7, .phase⟩, ⟨8, .phase⟩, ⟨9, .phase⟩, ⟨10, .phase⟩, ⟨11, .phase⟩, ⟨12, .phase⟩], none⟩) hH.out (by rintro w s0; go_simp <;> with_reducible rfl) ?_
        simp only [Act.put, sA, sB, sC]
        refine rdy (i := 14) (oi := ⟨none, .store 9 (.tmp 17) (.tmp 14), 0, "law.go:27", #[⟨13, .data⟩, ⟨8, .data⟩, ⟨12, .chain⟩, ⟨0, .phase⟩, ⟨1, .phase⟩, ⟨2, .phase⟩, ⟨3, .phase⟩, ⟨4, .phase⟩, ⟨5, .phase⟩, ⟨6, .phase⟩, ⟨7, .phase⟩, ⟨8, .phase⟩, ⟨9, .phase⟩, ⟨10, .phase⟩, ⟨11, .phase⟩, ⟨12, .phase⟩], none⟩) (fun K hK => ?_)
        go_simp
        refine hK.out _ _ (by first | exact True.intro) (fun hHeld => ?_)
        replace hH := Lib.hid hHeld
        clear hK K hHeld
        try simp only [Act.put]
        refine wpAnyH_done (by kernel_rfl) ?_ _
        go_wp2_with fail
        go_meet
        exact ⟨rfl, HV.out.symm⟩
  case rest =>
  obtain ⟨rfl, hwx⟩ := hcut
  replace hwx := hwx.symm
  subst hwx
  clear f11 f12 f15 s11 s12 s15 HS20 HO20 HS70
  obtain ⟨q0, q1, q2, q3, q4, q5, q6⟩ := HBV.out.c18.a
  have q17 := HBV.out.cell 17
  clear q0 q1 q2 q3 q4 q5 q6
  simp only [mc, List.getElem?_toArray, List.getElem?_cons_zero, List.getElem?_cons_succ] at q17
  have HM17 := Lib.hid (fun w' (a : Adv Nul V Nul w') => show w'.cell? ⟨z, 17, none⟩ = some (.slice A N c) from ((HBV.out.over a).cell 17))
  go_wp2_with fail
  go_loopw [3, 4] (FwL7 V m.en 26) (fun _ t _ => N - (intOf t).toNat)
  case atStart => exact ⟨0, rfl, Nat.zero_le _, Nat.zero_le _, by simp only [fewL, List.take_zero, List.map_nil]; exact EnO.nil V⟩
  case round =>
    obtain ⟨j, rfl, hj, hjn, hE⟩ := hrel
    rw [← HN.out] at hj
    have hlen : (fewL j m.en).length = j := by rw [fewL_length, ← HN.out]; omega
    obtain ⟨A5, c5, rfl⟩ := hE.form
    rw [hlen] at hE ⊢
    have HE := Lib.hid hE
    have HL := Lib.hid hlen
    have r17 := HM17.out wr HE.out.adv
    clear hE hlen q17
    have hcase : (j < N ∧ j < 26) ∨ ((j : Int) < N ∧ (26 : Int) ≤ j ∧ j = 26) ∨ ((N : Int) ≤ j ∧ j = N) := by omega
    rcases hcase with ⟨hlt, hjl⟩ | ⟨hlt, hle, hje⟩ | ⟨hle, hje⟩
    · have hjd : j < m.en.length := by rw [← HN.out]; exact hlt
      obtain ⟨b, o, rfl, hb, g0, g1, g2, g3⟩ := (HEN.out.step (HAV.out.trans HE.out.adv)).at_ HN.out hjd
      obtain ⟨e, he⟩ : ∃ e, e = m.en[j] := ⟨_, rfl⟩
      have hsz : e.s.size ≤ maxLen := by rw [he]; exact HEN.out.sz _ (List.getElem_mem _)
      have HF := Lib.hid (show fewL (j + 1) m.en = fewL j m.en ++ [cutE7 e] by unfold fewL; rw [List.take_succ_eq_append_getElem hjd, List.map_append, he]; rfl)
      rw [← he] at g0 g1 g2 g3
      have HLT := Lib.hid hlt
      have HJL := Lib.hid hjl
      have hlt' : (j : Int) < (N : Int) := by omega
      have hjl' : (j : Int) < 26 := by omega
      clear he hjd hb
      obtain ⟨s, i, g, k⟩ := e
      simp only at g0 g1 g2 g3 hsz
      have hmore := HE.out.more (m := [cutE7 ⟨s, i, g, k⟩]) (fun e he => by
        rw [List.mem_singleton.1 he]
        have := cut20_size s
        show (cut20 s).size ≤ maxLen
        unfold maxLen; omega)
      have hA2 := ((Adv.refl Nul wr).alloc (.cells (ea ⟨cut20 s, i, g, k⟩) 54)).alloc (.cells (ea ⟨cut20 s, i, g, k⟩) 54)
      have hown := own_keep hmore.1 (fun q hq => hA2.block q (hmore.1.lt q hq).2 (fun x => x))
      rw [HL.out] at hown
      have hrd : Rd ((wr.alloc (.cells (ea ⟨cut20 s, i, g, k⟩) 54)).alloc (.cells (ea ⟨cut20 s, i, g, k⟩) 54)) 4 (.slice (some ⟨wr.heap.size + 1, 0, none⟩) 1 1) 1 (ec ⟨cut20 s, i, g, k⟩) := by
        have := rd_one (wr.alloc (.cells (ea ⟨cut20 s, i, g, k⟩) 54)) ⟨cut20 s, i, g, k⟩
        rwa [World.size_alloc] at this
      have HMORE := Lib.hid hmore.2
      have HA2' := Lib.hid hA2
      clear hmore hA2
      go_wp2_with (first
        | (go_at_call 29; refine (short20 _ _ hsz).mono ?_; rintro x w1 ⟨rfl, rfl⟩)
        | (at_builtin; refine wpList_append_en rfl (.tmp 38) (.tmp 40) rfl rfl rfl hown hrd (ec_one _) (by have := HJL.out; omega) ?c5)
        | fail)
      case c5 =>
        intro v' w5 hown5 hg5 hat5
        have hp := HMORE.out _ v' w5 HA2'.out (by rw [ecs_one_eq, HL.out]; exact hown5) hg5 (by simpa [ea] using hat5)
        rw [← HF.out] at hp
        have HP := Lib.hid hp
        obtain ⟨A6, c6, rfl⟩ := hp.form
        clear hp hown5 hg5 hat5 hown hrd
        go_wp2_with fail
        exact ⟨⟨j + 1, by go_num, by rw [← HN.out]; exact HLT.out, HJL.out, HP.out⟩, by have := HLT.out; simp [intOf] <;> omega⟩
    · subst hje
      clear hj hjn
      have HWB := Lib.hid (HBV.out.over HE.out.adv)
      have HWU := Lib.hid (HUV.out.over HE.out.adv)
      have q17' : wr.cell? ⟨z, 17, none⟩ = some (.slice A N c) := HWB.out.cell 17
      have f17 : wr.frozen? ⟨z, 17, none⟩ = false := HWB.out.frozen 17
      go_upto_region 10 with fail
      obtain ⟨W1, hW1⟩ : ∃ W1, W1 = wr.setCell ⟨z, 17, none⟩ (.slice A5 26 c5) := ⟨_, rfl⟩
      have HB1' := Lib.hid (show Blk W1 z 28 (mc (shM m) (.slice A5 26 c5)) by rw [hW1]; unfold shM; exact HWB.out.set_ 17 _)
      have HU1 := Lib.hid (show Blk W1 u 28 Z by rw [hW1]; exact HWU.out.far (p := ⟨z, 17, none⟩) HZU.out.symm _)
      have HK1 := Lib.hid (show Adv (One z) wr (One z) W1 by rw [hW1]; exact (Adv.refl (One z) wr).setCell (p := ⟨z, 17, none⟩) (.inl (show One z z from rfl)) _)
      have HEW := Lib.hid (show EnO w (fewL 26 m.en) (.slice A5 26 c5) W1 from (HE.out).putz HAV.out HZ1.out HBV.out.lt HK1.out)
      have HNU := Lib.hid (show ∀ k, Value.ownBlock (.slice A5 26 c5) = some k → k ≠ u from fun k hk e => by have h1 := HE.out.new_ k hk; have h2 := HUV.out.lt; omega)
      rw [← hW1]
      clear hW1 q17' f17 HWB HWU
      obtain ⟨D, hD⟩ : ∃ D, D = mc (shM m) (.slice A5 26 c5) := ⟨_, rfl⟩
      have HD := Lib.hid hD
      rw [← hD] at HB1'
      have HDS := Lib.hid (show D.size = 18 by rw [hD]; rfl)
      have HD1 := Lib.hid (show D.all (·.oneCell') = true by rw [hD]; exact mc_one _ _ _ _)
      clear hD
      go_wp2_with (first
        | (refine kop_load (t := 28) rfl _ rfl z HB1'.out rfl Try.underlying28 rfl sizeM HDS.out ?_)
        | (refine kop_store (t := 28) rfl _ _ rfl u HU1.out rfl rfl sizeM HDS.out HZS.out HD1.out ?_; intro w9 hb ha; have HB9 := Lib.hid hb; have HA9 := Lib.hid ha; clear hb ha)
        | fail)
      exact bodyPost_ret (kresM rfl _ _ rfl HB9.out Try.underlying28 rfl (by rw [sizeM, HDS.out])) rfl ⟨.slice A5 26 c5, by rw [HD.out], HEW.out.far1 HU2.out HNU.out HA9.out⟩
    · have HF := Lib.hid (show fewL 26 m.en = fewL j m.en by unfold fewL; rw [List.take_of_length_le (by rw [← HN.out]; omega), List.take_of_length_le (by rw [← HN.out]; omega)])
      subst hje
      clear hj hjn
      have HWB := Lib.hid (HBV.out.over HE.out.adv)
      have HWU := Lib.hid (HUV.out.over HE.out.adv)
      have q17' : wr.cell? ⟨z, 17, none⟩ = some (.slice A j c) := HWB.out.cell 17
      have f17 : wr.frozen? ⟨z, 17, none⟩ = false := HWB.out.frozen 17
      go_upto_region 10 with fail
      obtain ⟨W1, hW1⟩ : ∃ W1, W1 = wr.setCell ⟨z, 17, none⟩ (.slice A5 j c5) := ⟨_, rfl⟩
      have HB1' := Lib.hid (show Blk W1 z 28 (mc (shM m) (.slice A5 j c5)) by rw [hW1]; unfold shM; exact HWB.out.set_ 17 _)
      have HU1 := Lib.hid (show Blk W1 u 28 Z by rw [hW1]; exact HWU.out.far (p := ⟨z, 17, none⟩) HZU.out.symm _)
      have HK1 := Lib.hid (show Adv (One z) wr (One z) W1 by rw [hW1]; exact (Adv.refl (One z) wr).setCell (p := ⟨z, 17, none⟩) (.inl (show One z z from rfl)) _)
      have HEW := Lib.hid (show EnO w (fewL 26 m.en) (.slice A5 j c5) W1 from ((show EnO V (fewL 26 m.en) (.slice A5 j c5) wr from by rw [HF.out]; exact HE.out)).putz HAV.out HZ1.out HBV.out.lt HK1.out)
      have HNU := Lib.hid (show ∀ k, Value.ownBlock (.slice A5 j c5) = some k → k ≠ u from fun k hk e => by have h1 := HE.out.new_ k hk; have h2 := HUV.out.lt; omega)
      rw [← hW1]
      clear hW1 q17' f17 HWB HWU
      obtain ⟨D, hD⟩ : ∃ D, D = mc (shM m) (.slice A5 j c5) := ⟨_, rfl⟩
      have HD := Lib.hid hD
      rw [← hD] at HB1'
      have HDS := Lib.hid (show D.size = 18 by rw [hD]; rfl)
      have HD1 := Lib.hid (show D.all (·.oneCell') = true by rw [hD]; exact mc_one _ _ _ _)
      clear hD
      go_wp2_with (first
        | (refine kop_load (t := 28) rfl _ rfl z HB1'.out rfl Try.underlying28 rfl sizeM HDS.out ?_)
        | (refine kop_store (t := 28) rfl _ _ rfl u HU1.out rfl rfl sizeM HDS.out HZS.out HD1.out ?_; intro w9 hb ha; have HB9 := Lib.hid hb; have HA9 := Lib.hid ha; clear hb ha)
        | fail)
      exact bodyPost_ret (kresM rfl _ _ rfl HB9.out Try.underlying28 rfl (by rw [sizeM, HDS.out])) rfl ⟨.slice A5 j c5, by rw [HD.out], HEW.out.far1 HU2.out HNU.out HA9.out⟩
end Go.Proofs.Ytpgeebhepegpaaa
namespace Go.Proofs.Ytpgeebhepegpaaa
open Go.ChangeShapes Go.WideShapes Go.ChangeAt Go.RowKit

def rcM : Ms := { ms0 with ty := 3, ss := 1, bo := 1, fi := 2, fg := 1 }
def rcN : Ms := { rcM with sq := 1 }
set_option maxRecDepth 3000 in
theorem rcM_wf : WfM rcM := ⟨by decide, by decide, by decide, by decide, by decide, by decide, by decide, by decide⟩
set_option maxRecDepth 3000 in
theorem rcN_wf : WfM rcN := ⟨by decide, by decide, by decide, by decide, by decide, by decide, by decide, by decide⟩
set_option maxRecDepth 3000 in
theorem rcM_ok : chkM rcM = 0 := by
  unfold chkM
  rw [ok_is, if_pos]
  unfold isM
  rw [if_neg (fun h => h (by decide)), if_pos (show rcM.ty = 3 from rfl)]
  have h : juB rcM [102] = true := by
    unfold juB
    simp [rf, zf, rcM, ms0, flP]
    rfl
  rw [h]
  rfl
set_option maxRecDepth 3000 in
theorem rcN_no : chkM rcN = 4 := by
  unfold chkM
  rw [ok_is, if_neg]
  unfold isM
  rw [if_neg (fun h => h (by decide)), if_pos (show rcN.ty = 3 from rfl)]
  simp [zf, rcN]
set_option maxRecDepth 3000 in
theorem rc_ne : sameB rcM rcN = false := sameB_no (·.sq) (by decide)
set_option maxRecDepth 3000 in
theorem nil_en (w : World) : EnR7 w nilV [] := (EnO.nil w).rd
set_option maxRecDepth 3000 in
theorem built_rec : Try.prog.built 28 [(0, .int .i64 3), (2, .int .u64 1), (4, .int .u64 1), (7, .agg #[.int .i64 2, .int .i64 1])] = some (mc rcM nilV) := by kernel_rfl
set_option maxRecDepth 3000 in
set_option maxHeartbeats 1600000 in
theorem recall16_any (w : World) : Calls Try.prog 36 #[] w fun e w' => e = .returned (.agg (mc rcM nilV)) ∧ Adv Nul w Nul w' := by
  have HI := Lib.hid infoM
  have HBR := Lib.hid built_rec
  obtain ⟨Z, hZ⟩ : ∃ C, C = mc ms0 nilV := ⟨_, rfl⟩
  have HZS := Lib.hid (show Z.size = 18 by rw [hZ]; rfl)
  obtain ⟨D, hD⟩ : ∃ C, C = mc rcM nilV := ⟨_, rfl⟩
  have HDS := Lib.hid (show D.size = 18 by rw [hD]; rfl)
  have HD1 := Lib.hid (show D.all (·.oneCell') = true by rw [hD]; exact mc_one _ _ _ _)
  rw [← hD] at HBR ⊢
  rw [← hZ] at HI
  clear hZ hD
  go_enter Try.func36, Try.ntmps36
  go_wp2_with (first
    | (refine kop_alloc rfl rfl HI.out ?_; intro u w2 hz hb ha; have HU2 := Lib.hid hz; have HBU := Lib.hid hb; have HA2 := Lib.hid ha; clear hz hb ha)
    | (refine kop_built rfl rfl (by kernel_rfl) HBR.out ?_)
    | (refine kop_store rfl _ _ rfl u HBU.out rfl rfl sizeM HDS.out HZS.out HD1.out ?_; intro w3 hb ha; have HB3 := Lib.hid hb; have HA3 := Lib.hid (HA2.out.fresh HU2.out ha); clear hb ha)
    | fail)
  exact bodyPost_ret (kresM rfl _ _ rfl HB3.out Try.underlying28 rfl (by rw [sizeM, HDS.out])) rfl ⟨rfl, HA3.out⟩
set_option maxRecDepth 3000 in
set_option maxHeartbeats 3200000 in
theorem lives16_any (w : World) : Calls Try.prog 15 #[] w fun e w' => e = .returned (.bool true) ∧ Adv Nul w Nul w' := by
  have HI := Lib.hid infoM
  have HRC := Lib.hid (fun w => recall16_any w)
  have HK1 := Lib.hid (fun w => show Calls Try.prog 12 #[.agg (mc rcM nilV)] w fun e w' => e = .returned (.int .i64 0) ∧ Adv Nul w Nul w' by rw [← rcM_ok]; exact check16_any rcM nilV rcM_wf w (nil_en w))
  have HK2 := Lib.hid (fun w => show Calls Try.prog 12 #[.agg (mc rcN nilV)] w fun e w' => e = .returned (.int .i64 4) ∧ Adv Nul w Nul w' by rw [← rcN_no]; exact check16_any rcN nilV rcN_wf w (nil_en w))
  have HS1 := Lib.hid (fun w => show Calls Try.prog 16 #[.agg (mc rcM nilV), .agg (mc rcM nilV)] w fun e w' => e = .returned (.bool true) ∧ Adv Nul w Nul w' by rw [← sameB_self rcM]; exact msame_any rcM rcM nilV nilV w (nil_en w) (nil_en w))
  have HS2 := Lib.hid (fun w => show Calls Try.prog 16 #[.agg (mc rcM nilV), .agg (mc rcN nilV)] w fun e w' => e = .returned (.bool false) ∧ Adv Nul w Nul w' by rw [← rc_ne]; exact msame_any rcM rcN nilV nilV w (nil_en w) (nil_en w))
  have HID := Lib.hid (fun w => show Calls Try.prog 20 #[.int .i64 9] w fun e w' => e = .returned (.bool true) ∧ w = w' from idle_any 9 w)
  obtain ⟨Z, hZ⟩ : ∃ C, C = mc ms0 nilV := ⟨_, rfl⟩
  have HZS := Lib.hid (show Z.size = 18 by rw [hZ]; rfl)
  obtain ⟨C, hC⟩ : ∃ C, C = mc rcM nilV := ⟨_, rfl⟩
  have HCS := Lib.hid (show C.size = 18 by rw [hC]; rfl)
  have HC1 := Lib.hid (show C.all (·.oneCell') = true by rw [hC]; exact mc_one _ _ _ _)
  obtain ⟨D, hD⟩ : ∃ C, C = mc rcN nilV := ⟨_, rfl⟩
  have HDS := Lib.hid (show D.size = 18 by rw [hD]; rfl)
  have HCD := Lib.hid (show C.setIfInBounds 3 (.int .u64 1) = D by rw [hC, hD]; rfl)
  have HC3 := Lib.hid (show ∀ w' z, Blk w' z 28 C → w'.cell? ⟨z, 3, none⟩ = some (.int .u64 0) from fun w' z h => by rw [hC] at h; exact h.cell 3)
  rw [← hZ] at HI
  rw [← hC] at HRC HK1 HS1 HS2
  rw [← hD] at HK2 HS2
  clear hZ hC hD
  go_enter Try.func15, Try.ntmps15
  go_upto_region 3 with (first
    | (go_at_call 36; refine (HRC.out _).mono ?_; rintro x w1 ⟨rfl, a1⟩; have HA1 := Lib.hid a1; clear a1)
    | (refine kop_alloc rfl rfl HI.out ?_; intro u w2 hz hb ha; have HA2 := Lib.hid ((Adv.refl Nul w).trans HA1.out |>.trans ha); have HU2 := Lib.hid (Nat.le_trans HA1.out.size hz); have HBU := Lib.hid hb; clear hz hb ha HA1)
    | (refine kop_store rfl _ _ rfl u HBU.out rfl rfl sizeM HCS.out HZS.out HC1.out ?_; intro w3 hb ha; have HB3 := Lib.hid hb; have HA3 := Lib.hid (HA2.out.fresh HU2.out ha); clear hb ha HBU)
    | (refine kop_load (t := 28) rfl _ rfl u HB3.out rfl Try.underlying28 rfl sizeM HCS.out ?_)
    | (refine kop_alloc rfl rfl HI.out ?_; intro y w4 hz hb ha; have HA4 := Lib.hid (HA3.out.trans ha); have HY4 := Lib.hid (Nat.le_trans HA3.out.size hz); have HBY := Lib.hid hb; have HB4 := Lib.hid (HB3.out.over ha); have HNE := Lib.hid (show u ≠ y from fun e => by have := HB3.out.lt; omega); clear hz hb ha)
    | (refine kop_store rfl _ _ rfl y HBY.out rfl rfl sizeM HCS.out HZS.out HC1.out ?_; intro w5 hb ha; have HY5 := Lib.hid hb; have HB5 := Lib.hid (HB4.out.far1 ha HNE.out); have HA5 := Lib.hid (HA4.out.fresh HY4.out ha); clear hb ha HBY)
    | fail)
  have c3 := HC3.out _ _ HY5.out
  have f3 := HY5.out.frozen 3
  go_upto_region 4 with fail
  obtain ⟨W, hW⟩ : ∃ W, W = w5.setCell ⟨y, 3, none⟩ (.int .u64 1) := ⟨_, rfl⟩
  have HYW := Lib.hid (show Blk W y 28 D by rw [hW, ← HCD.out]; exact HY5.out.set_ 3 _)
  have HBW := Lib.hid (show Blk W u 28 C by rw [hW]; exact HB5.out.far (p := ⟨y, 3, none⟩) HNE.out _)
  have HAW := Lib.hid (show Adv Nul w Nul W by rw [hW]; exact HA5.out.setCell (p := ⟨y, 3, none⟩) (.inr HY4.out) _)
  rw [← hW]
  clear hW c3 f3 HCD HC3
  go_wp2_with (first
    | (refine kop_load (t := 28) rfl _ rfl u HBW.out rfl Try.underlying28 rfl sizeM HCS.out ?_)
    | (go_at_call 12; refine (HK1.out _).mono ?_; clear HK1; rintro x w6 ⟨rfl, a6⟩; have HA6 := Lib.hid (HAW.out.trans a6); have HB6 := Lib.hid (HBW.out.over a6); have HY6 := Lib.hid (HYW.out.over a6); clear a6 HBW)
    | (refine kw_loadC (t := 28) _ rfl (by rfl) y HY6.out rfl Try.underlying28 rfl sizeM HDS.out ?_)
    | (go_at_call 12; refine (HK2.out _).mono ?_; rintro x w7 ⟨rfl, a7⟩; have HA7 := Lib.hid (HA6.out.trans a7); have HB7 := Lib.hid (HB6.out.over a7); have HY7 := Lib.hid (HY6.out.over a7); clear a7 HY6)
    | (refine kw_loadC (t := 28) _ rfl (by rfl) u HB7.out rfl Try.underlying28 rfl sizeM HCS.out ?_)
    | (go_at_call 16; refine (HS1.out _).mono ?_; clear HS1; rintro x w8 ⟨rfl, a8⟩; have HA8 := Lib.hid (HA7.out.trans a8); have HB8 := Lib.hid (HB7.out.over a8); have HY8 := Lib.hid (HY7.out.over a8); clear a8 HB7)
    | (refine kw_loadC (t := 28) _ rfl (by rfl) u HB8.out rfl Try.underlying28 rfl sizeM HCS.out ?_)
    | (refine kw_loadC (t := 28) _ rfl (by rfl) y HY8.out rfl Try.underlying28 rfl sizeM HDS.out ?_)
    | (go_at_call 16; refine (HS2.out _).mono ?_; rintro x w9 ⟨rfl, a9⟩; have HA9 := Lib.hid (HA8.out.trans a9); clear a9)
    | (go_at_call 20; refine (HID.out _).mono ?_; rintro x wx ⟨rfl, rfl⟩)
    | fail)
  go_ret
  exact ⟨by first | rfl | simp, HA9.out⟩
end Go.Proofs.Ytpgeebhepegpaaa
namespace Go.Proofs.Ytpgeebhepegpaaa
open Go.ChangeShapes Go.WideShapes Go.ChangeAt Go.RowKit

set_option maxRecDepth 3000 in
theorem Adv.newF {W w w' : World} {F F' : Nat → Prop} (h : Adv Nul W Nul w) (ha : Adv F w F' w') (fn : ∀ q, F q → W.heap.size ≤ q) : Adv Nul W Nul w' :=
  ⟨ha.os.trans h.os, ha.tape.trans h.tape, ha.output.trans h.output, Nat.le_trans h.size ha.size, fun k hk _ => (ha.block k (Nat.lt_of_lt_of_le hk h.size) (fun hf => absurd (fn k hf) (by omega))).trans (h.block k hk (fun x => x)), fun k hk => hk.elim⟩
/-- between two entries that are read -/
structure PaS (W : World) (b V j : Nat) (F : Nat → Prop) (l : List En) (v : Value) (w : World) : Prop where
  rs : RSt w F b 128 V (172 * j)
  bd : Bd F w
  ex : ∃ F2, Sl w F2 54 4 v l.length (ecs l) ∧ Sep F F2 ∧ ∀ q, F2 q → W.heap.size ≤ q
  ad : Adv Nul W Nul w
  fn : ∀ q, F q → W.heap.size ≤ q
section
variable {W w w' : World} {b V j : Nat} {F : Nat → Prop} {l : List En} {v : Value}
set_option maxRecDepth 3000 in
theorem PaS.alloc (h : PaS W b V j F l v w) (o : Obj) : PaS W b V j F l v (w.alloc o) := by
  obtain ⟨F2, h1, h2, h3⟩ := h.ex
  exact ⟨h.rs.alloc h.bd o, fun q hq => Nat.lt_of_lt_of_le (h.bd q hq) (by simp), ⟨F2, h1.far (F' := Nul) ((Adv.refl Nul w).alloc o) (fun _ x _ => x), h2, h3⟩, h.ad.alloc o, h.fn⟩
set_option maxRecDepth 3000 in
theorem PaS.form (h : PaS W b V j F l v w) : ∃ A c, v = .slice A l.length c := by
  obtain ⟨F2, h1, _⟩ := h.ex
  obtain ⟨A, c, e, _⟩ := h1.form0
  exact ⟨A, c, e⟩
set_option maxRecDepth 3000 in
theorem PaS.read (h : PaS W b V j F l v w) (hr : RSt w' F b 128 V (172 * (j + 1))) (ha : Adv F w F w') (hb : Bd F w') : PaS W b V (j + 1) F l v w' := by
  obtain ⟨F2, h1, h2, h3⟩ := h.ex
  exact ⟨hr, hb, ⟨F2, h1.far ha h2, h2, h3⟩, h.ad.newF ha h.fn, h.fn⟩
set_option maxRecDepth 3000 in
theorem PaS.own (h : PaS W b V j F l v w) : w.ownsRow 0 54 4 v l.length (ecs l) := by
  obtain ⟨F2, h1, _⟩ := h.ex
  exact h1.own
set_option maxRecDepth 3000 in
theorem PaS.push {e : En} {v' : Value} (h : PaS W b V j F l v w) (hown : w'.ownsRow 0 54 4 v' (l.length + 1) (ecs l ++ ec e)) (hg : w.grownBy w' v.ownBlock) (hat : v'.ownBlock = v.ownBlock ∨ v'.ownBlock = some w.heap.size) : PaS W b V j F (l ++ [e]) v' w' := by
  obtain ⟨F2, h1, h2, h3⟩ := h.ex
  have hF' : ∀ q, (F2 q ∨ v'.ownBlock = some q) → F2 q ∨ w.heap.size ≤ q := by
    rintro q (h | h)
    · exact .inl h
    · rcases hat with e | e
      · exact .inl (h1.inF q (by rw [← e]; exact h))
      · rw [e] at h; injection h with h; right; omega
  have hA : Adv F2 w (fun q => F2 q ∨ v'.ownBlock = some q) w' := by
    have h5 := (Adv.refl F2 w).grown hg (fun q hq => .inl (h1.inF q hq))
    exact ⟨h5.os, h5.tape, h5.output, h5.size, h5.block, hF'⟩
  have hsep : Sep F (fun q => F2 q ∨ v'.ownBlock = some q) := fun q a c => by
    rcases hF' q c with d | d
    · exact h2 q a d
    · have := h.bd q a; omega
  obtain ⟨rv, hB, hS⟩ := h.rs.ex
  have hb := hA.block b hB.lt (fun f => h2 b h.rs.inF f)
  refine ⟨⟨⟨rv, hB.keep hb, hS.far hA h2.symm⟩, h.rs.inF, h.rs.le, h.rs.sm⟩, hA.bd h.bd, ⟨_, ⟨by rw [List.length_append, ecs_append, ecs_one_eq]; exact hown, fun q hq => .inr hq, ?_⟩, hsep, fun q hq => ?_⟩, h.ad.newF hA h3, h.fn⟩
  · rintro q (c | c)
    · exact Nat.lt_of_lt_of_le (h1.bd q c) hA.size
    · exact (hown.lt q c).2
  · rcases hF' q hq with d | d
    · exact h3 q d
    · exact Nat.le_trans h.ad.size d
end
set_option maxRecDepth 3000 in
theorem rd_one2 (w : World) (o : Obj) (e : En) : Rd ((w.alloc o).alloc (.cells (ea e) 54)) 4 (.slice (some ⟨w.heap.size + 1, 0, none⟩) 1 1) 1 (ec e) := by
  have := rd_one (w.alloc o) e
  rwa [World.size_alloc] at this
set_option maxRecDepth 3000 in
theorem rdE_size (V k : Nat) : (rdE V k (min (rdN V k) 16)).s.size = min (rdN V k) 16 := by
  show (bytesAt 128 V (172 * k + 44) (min (rdN V k) 16)).toArray.size = _
  rw [List.size_toArray, bytesAt_length]
set_option maxRecDepth 3000 in
theorem size0 {s : ByteArray} (h : s.size = 0) : s = ⟨#[]⟩ := by
  apply data_ext
  rw [List.eq_nil_of_length_eq_zero (show s.data.toList.length = 0 from h)]
set_option maxRecDepth 3000 in
theorem ne_nil {s : ByteArray} (h : s.size ≠ 0) : (s.toList == []) = false := by
  rw [beq_eq_false_iff_ne, ByteArray.toList_eq]
  intro e
  exact h (by show s.data.size = 0; rw [← Array.length_toList, e]; rfl)
def PaL (W : World) (b V : Nat) (F : Nat → Prop) (t4 t8 : Value) (wr : World) : Prop := ∃ j : Nat, t8 = .int .i64 (j : Int) ∧ j ≤ 5 ∧ PaS W b V j F (ptP V j) t4 wr
end Go.Proofs.Ytpgeebhepegpaaa
namespace Go.Proofs.Ytpgeebhepegpaaa
open Go.ChangeShapes Go.WideShapes Go.ChangeAt Go.RowKit

section
variable {w w' : World} {v : Value} {rs : List (List Nat)}
set_option maxRecDepth 3000 in
theorem RwD.form (h : RwD w v rs) : ∃ A c, v = .slice A rs.length c ∧ rs.length ≤ c ∧ c ≤ maxLen := by
  obtain ⟨cs, h1, _⟩ := h.ex
  exact h1.form
set_option maxRecDepth 3000 in
theorem RwD.len {A : Option Addr} {n c : Nat} (h : RwD w (.slice A n c) rs) : n = rs.length := by
  obtain ⟨A', c', e, _⟩ := h.form
  injection e with _ e _
set_option maxRecDepth 3000 in
theorem RwD.at_ {A : Option Addr} {n c i : Nat} (h : RwD w (.slice A n c) rs) (hi : i < rs.length) : ∃ b o A' q, A = some ⟨b, o, none⟩ ∧ b < w.heap.size ∧ w.cell? ⟨b, o + i, none⟩ = some (.slice A' (rs[i]).length q) ∧ Rd w 1 (.slice A' (rs[i]).length q) (rs[i]).length ((rs[i]).map u8) := by
  obtain ⟨cs, h1, h2, h3⟩ := h.ex
  obtain ⟨A0, c0, e, _⟩ := h1.form
  injection e with e1 e2 e3
  subst e2
  obtain ⟨b, o, rfl, hb, hc⟩ := h1.cells (by omega) (by decide)
  have hci := List.getElem?_eq_getElem (l := cs) (i := i) (by omega)
  have hr := h3 i _ _ hci (List.getElem?_eq_getElem hi)
  obtain ⟨A', q, e, _⟩ := hr.form
  rw [e] at hr hci
  exact ⟨b, o, A', q, rfl, hb, hc i _ hci, hr⟩
end
/-- bytes that are bytes -/
def All8 (rs : List (List Nat)) : Prop := ∀ r ∈ rs, ∀ x ∈ r, x < 256
set_option maxRecDepth 3000 in
theorem bL_8 (l : List En) : All8 (bL l) := fun r hr => (bL_all l r hr).2
def ErL (w : World) (rs qs : List (List Nat)) (t : Value) (wr : World) : Prop := ∃ k : Nat, k ≤ rs.length ∧ t = .int .i64 (k : Int) ∧ (∀ i, i < k → rs[i]? = qs[i]?) ∧ wr = w
end Go.Proofs.Ytpgeebhepegpaaa
namespace Go.Proofs.Ytpgeebhepegpaaa
open Go.ChangeShapes Go.WideShapes Go.ChangeAt Go.RowKit Go.Deep

set_option maxRecDepth 3000 in
theorem w_list_of {α : Type} {Q : Nat → α → Prop} : ∀ n : Nat, (∀ i, i < n → ∃ d, Q i d) → ∃ ds : List α, ds.length = n ∧ ∀ i (h : i < ds.length), Q i ds[i]
  | 0, _ => ⟨[], rfl, fun i h => absurd h (by simp)⟩
  | n + 1, H => by
    obtain ⟨ds, hl, hd⟩ := w_list_of n (fun i hi => H i (by omega))
    obtain ⟨d, hq⟩ := H n (by omega)
    refine ⟨ds ++ [d], by simp [hl], fun i h => ?_⟩
    rw [List.length_append, List.length_singleton] at h
    by_cases hi : i < ds.length
    · rw [List.getElem_append_left hi]; exact hd i hi
    · have e : i = n := by omega
      subst e
      rw [List.getElem_append_right (by omega)]
      simpa using hq
set_option maxRecDepth 3000 in
theorem w_cell_ints {H : Type} {enc : TypeId × Value → H} {P : Program} {W : World} {t e : TypeId} {k : IntKind} {fuel : Nat} {v : Value} {x : DataW H × List MemPlace} (ht : P.underlying t = some (.slice e)) (he : P.underlying e = some (.int k)) (hc : P.cellsOf e = 1)
    (hf : DataW.trod enc P W 0 (fun _ => true) true fuel t [v] = some x) :
    ∃ (n : Nat) (zs : List Int), Rd W 1 v n (zs.map (Value.int k)) ∧ zs.length = n ∧ (∀ z ∈ zs, (Lit.int k z).wf = true) ∧ (∀ b, v.ownBlock = some b → 0 < n → b < W.heap.size) := by
  rcases open_ints ht he hc hf with ⟨hcs, _⟩ | ⟨x, l, c, zs, hcs, _, hl, hm, hz, _, hcell, hwz⟩
  · simp at hcs
    subst hcs
    exact ⟨0, [], ⟨none, 0, rfl, Nat.le_refl _, Nat.zero_le _, rfl, fun _ => rfl, fun hn => absurd hn (by omega)⟩, rfl, fun _ hz => by simp at hz, fun b hb => by simp [Value.ownBlock] at hb⟩
  · simp at hcs
    subst hcs
    have hz' : zs.length = c := by simpa using hz
    have hlt : 0 < l → x.block < W.heap.size := fun hn => by
      have h := World.block_lt_of_cell? _ _ (hcell 0 (by omega))
      rwa [add_block] at h
    refine ⟨l, zs.take l, ⟨some x, c, rfl, hl, hm, by simp; omega, fun hn => (by cases hn), fun hn => ⟨x, rfl, hlt hn, fun j u hu => ?_⟩⟩, by simp; omega, fun z hzz => hwz z (List.mem_of_mem_take hzz), fun b hb hn => ?_⟩
    · obtain ⟨h1, h2, rfl⟩ := getD_map_int k zs l j u hu
      exact hcell j (by omega)
    · have : x.block = b := by simpa [Value.ownBlock] using hb
      rw [← this]; exact hlt hn

set_option maxRecDepth 3000 in
theorem w_cellsEntry : Try.prog.cellsOf 54 = 4 := by kernel_rfl
set_option maxRecDepth 3000 in
theorem w_cellsFile : Try.prog.cellsOf 25 = 2 := by kernel_rfl
set_option maxRecDepth 3000 in
theorem w_cellsInt : Try.prog.cellsOf 3 = 1 := by kernel_rfl
set_option maxRecDepth 3000 in
theorem w_cellsString : Try.prog.cellsOf 9 = 1 := by kernel_rfl
set_option maxRecDepth 3000 in
theorem w_cellsBytes : Try.prog.cellsOf 38 = 1 := by kernel_rfl
set_option maxRecDepth 3000 in
/-- an entry's cells -/
theorem open_en {H : Type} {enc : TypeId × Value → H} {W : World} {n : Nat} {cs : List Value} {x : DataW H × List MemPlace} (h : DataW.trod enc Try.prog W 0 (fun _ => true) true n 54 cs = some x) :
    ∃ e : En, cs = ec e ∧ e.s.size ≤ maxLen := by
  obtain ⟨xs, m, _, _, hlen, hxl, hf⟩ := DataW.trod_struct Try.underlying54 h
  rw [w_cellsEntry] at hlen
  match cs, hlen with
  | [c0, c1, c2, c3], _ =>
    match xs, hxl with
    | [y0, y1, y2], _ =>
      have f0 := hf 0 _ rfl
      have f1 := hf 1 _ rfl
      have f2 := hf 2 _ rfl
      change DataW.trod enc Try.prog W 0 (fun _ => true) true m 9 ((([c0, c1, c2, c3] : List Value).drop 0).take (Try.prog.cellsOf 9)) = some y0 at f0
      change DataW.trod enc Try.prog W 0 (fun _ => true) true m 25 ((([c0, c1, c2, c3] : List Value).drop 1).take (Try.prog.cellsOf 25)) = some y1 at f1
      change DataW.trod enc Try.prog W 0 (fun _ => true) true m 3 ((([c0, c1, c2, c3] : List Value).drop 3).take (Try.prog.cellsOf 3)) = some y2 at f2
      rw [w_cellsString] at f0
      rw [w_cellsFile] at f1
      rw [w_cellsInt] at f2
      obtain ⟨s, e0, _, hs⟩ := DataW.trod_string Try.underlying9 f0
      obtain ⟨zs, m1, _, _, _, hzl, hg⟩ := DataW.trod_struct Try.underlying25 f1
      obtain ⟨a3, e3, _, _⟩ := DataW.trod_int Try.underlying3 f2
      match zs, hzl with
      | [z0, z1], _ =>
        have g0 := hg 0 _ rfl
        have g1 := hg 1 _ rfl
        change DataW.trod enc Try.prog W 0 (fun _ => true) true m1 3 ((([c1, c2] : List Value).drop 0).take (Try.prog.cellsOf 3)) = some z0 at g0
        change DataW.trod enc Try.prog W 0 (fun _ => true) true m1 3 ((([c1, c2] : List Value).drop 1).take (Try.prog.cellsOf 3)) = some z1 at g1
        rw [w_cellsInt] at g0 g1
        obtain ⟨a1, e1, _, _⟩ := DataW.trod_int Try.underlying3 g0
        obtain ⟨a2, e2, _, _⟩ := DataW.trod_int Try.underlying3 g1
        simp at e0 e1 e2 e3
        subst e0 e1 e2 e3
        exact ⟨⟨s, a1, a2, a3⟩, rfl, hs⟩
def EnA (v : Value) : Prop := ∃ e : En, v = .agg (ec e).toArray ∧ e.s.size ≤ maxLen
set_option maxRecDepth 3000 in
theorem open_entry {H : Type} {enc : TypeId × Value → H} {W : World} {base : Nat} {r : Reach} {v : Value} {d : DataW H} {p : List MemPlace} (hv : Value.okWide Try.prog W r base 54 v) (h : DataW.Trod enc Try.prog W 0 (fun _ => true) true 54 v d p) : EnA v := by
  obtain ⟨cs, rfl, _⟩ := okWide_struct Try.underlying54 hv
  obtain ⟨fuel, hf⟩ := h
  obtain ⟨e, h1, h2⟩ := open_en hf
  have h1' : cs.toList = ec e := h1
  exact ⟨e, by rw [← h1'], h2⟩
set_option maxRecDepth 3000 in
theorem open_entries {H : Type} {enc : TypeId × Value → H} {W : World} {base : Nat} {r : Reach} {v : Value} {d : DataW H} {p : List MemPlace} (hv : Value.okWide Try.prog W r base 26 v) (h : DataW.Trod enc Try.prog W 0 (fun _ => true) true 26 v d p) : ∃ l, EnR7 W v l := by
  obtain ⟨a, len, cap, rfl⟩ := okWide_slice Try.underlying26 hv
  obtain ⟨fuel, hf⟩ := h
  rcases open_slice Try.underlying26 hf with ⟨hcs, _⟩ | ⟨x, l, c, m, n, D, Pl, hcs, _, hl, hm, hmm, _, hi⟩
  · simp [Value.cells] at hcs
    obtain ⟨rfl, rfl, rfl⟩ := hcs
    exact ⟨[], ⟨none, 0, rfl, Nat.le_refl _, Nat.zero_le _, rfl, fun _ => rfl, fun hn => absurd hn (by simp)⟩, fun _ hz => by simp at hz⟩
  · simp [Value.cells] at hcs
    obtain ⟨rfl, rfl, rfl⟩ := hcs
    simp only [if_true] at hmm
    have H1 : ∀ i, i < len → ∃ d : En, (∀ j, j < 4 → W.cell? (x.add (i * 4 + j)) = (ec d)[j]?) ∧ d.s.size ≤ maxLen := by
      intro i hil
      obtain ⟨cs', hc, ht⟩ := hi i (by omega)
      rw [w_cellsEntry] at hc
      obtain ⟨d, rfl, h1⟩ := open_en ht
      obtain ⟨_, _, hat⟩ := World.cells?_some hc
      refine ⟨d, fun j hj => ?_, h1⟩
      rw [← hat j hj, Go.Deep.add_add]
    obtain ⟨ds, hdl, hd⟩ := w_list_of len H1
    refine ⟨ds, ⟨some x, cap, by rw [hdl], by omega, hm, ecs_length _, fun hn => (by cases hn), fun hn => ⟨x, rfl, ?_, ?_⟩⟩, ?_⟩
    · have h0 := (hd 0 hn).1 0 (by decide)
      have := World.block_lt_of_cell? _ _ (h0.trans rfl)
      rwa [add_block] at this
    · intro j u hu
      have hjl : j < (ecs ds).length := (List.getElem?_eq_some_iff.1 hu).1
      rw [ecs_length] at hjl
      have hk : j / 4 < ds.length := by omega
      have hj4 : j % 4 < 4 := by omega
      have e : j = j / 4 * 4 + j % 4 := by omega
      rw [e] at hu ⊢
      rw [(hd (j / 4) hk).1 (j % 4) hj4, ← hu, ecs_at ds (j / 4) (j % 4) hj4 hk]
    · intro d hdm
      obtain ⟨i, hi2, rfl⟩ := List.getElem_of_mem hdm
      exact (hd i hi2).2
/-- rows that came in -/
structure RwI (w : World) (v : Value) (rs : List (List Nat)) : Prop where
  ex : ∃ cs : List Value, Rd w 1 v rs.length cs ∧ cs.length = rs.length ∧ ∀ (i : Nat) (c : Value) (r : List Nat), cs[i]? = some c → rs[i]? = some r → In w c r
set_option maxRecDepth 3000 in
theorem RwI.rd {w : World} {v : Value} {rs : List (List Nat)} (h : RwI w v rs) : RwD w v rs := by
  obtain ⟨cs, h1, h2, h3⟩ := h.ex
  exact ⟨cs, h1, h2, fun i c r hc hr => (h3 i c r hc hr).rd⟩
set_option maxRecDepth 3000 in
theorem RwI.all8 {w : World} {v : Value} {rs : List (List Nat)} (h : RwI w v rs) : All8 rs := by
  obtain ⟨cs, h1, h2, h3⟩ := h.ex
  intro r hr
  obtain ⟨i, hi, rfl⟩ := List.mem_iff_getElem.1 hr
  exact (h3 i _ _ (List.getElem?_eq_getElem (by omega)) (List.getElem?_eq_getElem hi)).lt
set_option maxRecDepth 3000 in
theorem open_rows {H : Type} {enc : TypeId × Value → H} {W : World} {base : Nat} {r : Reach} {v : Value} {d : DataW H} {p : List MemPlace} (hv : Value.okWide Try.prog W r base 109 v) (h : DataW.Trod enc Try.prog W 0 (fun _ => true) true 109 v d p) : ∃ l, RwI W v l := by
  obtain ⟨a, len, cap, rfl⟩ := okWide_slice Try.underlying109 hv
  obtain ⟨fuel, hf⟩ := h
  rcases open_slice Try.underlying109 hf with ⟨hcs, _⟩ | ⟨x, l, c, m, n, D, Pl, hcs, _, hl, hm, hmm, _, hi⟩
  · simp [Value.cells] at hcs
    obtain ⟨rfl, rfl, rfl⟩ := hcs
    exact ⟨[], [], ⟨none, 0, rfl, Nat.le_refl _, Nat.zero_le _, rfl, fun _ => rfl, fun hn => absurd hn (by simp)⟩, rfl, fun _ _ _ hc => by simp at hc⟩
  · simp [Value.cells] at hcs
    obtain ⟨rfl, rfl, rfl⟩ := hcs
    simp only [if_true] at hmm
    have H1 : ∀ i, i < len → ∃ d : Value × List Nat, W.cell? (x.add i) = some d.1 ∧ In W d.1 d.2 := by
      intro i hil
      obtain ⟨cs', hc, ht⟩ := hi i (by omega)
      rw [w_cellsBytes] at hc
      obtain ⟨hsz, _, hat⟩ := World.cells?_some hc
      match cs', hsz, ht, hat with
      | [c0], _, ht, hat =>
        obtain ⟨l, hl⟩ := In.of_rd_ints (w_cell_ints Try.underlying38 Try.underlying5 (by kernel_rfl) (v := c0) ht)
        have h0 := hat 0 (by decide)
        rw [Go.Deep.add_add] at h0
        refine ⟨(c0, l), ?_, hl⟩
        simpa using h0
    obtain ⟨ds, hdl, hd⟩ := w_list_of len H1
    refine ⟨ds.map Prod.snd, ds.map Prod.fst, ⟨some x, cap, by simp [hdl], by simp; omega, hm, by simp, fun hn => (by cases hn), fun hn => ⟨x, rfl, ?_, ?_⟩⟩, by simp, ?_⟩
    · rw [List.length_map] at hn
      have := World.block_lt_of_cell? _ _ (hd 0 hn).1
      rwa [add_block] at this
    · intro j u hu
      rw [List.getElem?_map] at hu
      obtain ⟨dd, h1, rfl⟩ := Option.map_eq_some_iff.1 hu
      obtain ⟨hj, rfl⟩ := List.getElem?_eq_some_iff.1 h1
      exact (hd j hj).1
    · intro i c r hc hr
      rw [List.getElem?_map] at hc hr
      obtain ⟨dd, h1, rfl⟩ := Option.map_eq_some_iff.1 hc
      obtain ⟨hj, rfl⟩ := List.getElem?_eq_some_iff.1 h1
      rw [h1] at hr
      obtain rfl := Option.some.inj hr
      exact (hd i hj).2
end Go.Proofs.Ytpgeebhepegpaaa
namespace Go.Proofs.Ytpgeebhepegpaaa
open Go.ChangeShapes Go.WideShapes Go.ChangeAt Go.RowKit Go.Deep

set_option maxRecDepth 3000 in
theorem m_cellsE : Try.prog.cellsOf 26 = 1 := by kernel_rfl
set_option maxRecDepth 3000 in
theorem m_cellsF : Try.prog.cellsOf 25 = 2 := by kernel_rfl
set_option maxRecDepth 3000 in
theorem m_cellsI : Try.prog.cellsOf 3 = 1 := by kernel_rfl
set_option maxRecDepth 3000 in
theorem m_cellsU : Try.prog.cellsOf 22 = 1 := by kernel_rfl
set_option maxRecDepth 3000 in
theorem m_cellsS : Try.prog.cellsOf 9 = 1 := by kernel_rfl
set_option maxRecDepth 3000 in
theorem m_cellsR : Try.prog.cellsOf 23 = 1 := by kernel_rfl
set_option maxRecDepth 3000 in
theorem m_cellsM : Try.prog.cellsOf 28 = 18 := by kernel_rfl
set_option maxRecDepth 3000 in
theorem mwf_of_u64 {x : Int} (h : (Lit.int .u64 x).wf = true) : ∃ n : Nat, x = (n : Int) ∧ n < 18446744073709551616 := by
  have hb := bounds_u64 h
  exact ⟨x.toNat, by omega, by omega⟩
set_option maxRecDepth 3000 in
theorem open_fileM {H : Type} {enc : TypeId × Value → H} {W : World} {n : Nat} {cs : List Value} {x : DataW H × List MemPlace} (h : DataW.trod enc Try.prog W 0 (fun _ => true) true n 25 cs = some x) :
    ∃ i g : Int, cs = [.int .i64 i, .int .i64 g] := by
  obtain ⟨zs, m1, _, _, hlen, hzl, hg⟩ := DataW.trod_struct Try.underlying25 h
  rw [m_cellsF] at hlen
  match cs, hlen with
  | [c1, c2], _ =>
    match zs, hzl with
    | [z0, z1], _ =>
      have g0 := hg 0 _ rfl
      have g1 := hg 1 _ rfl
      simp [m_cellsI] at g0 g1
      obtain ⟨a1, e1, _, w1⟩ := DataW.trod_int Try.underlying3 g0
      obtain ⟨a2, e2, _, w2⟩ := DataW.trod_int Try.underlying3 g1
      simp at e1 e2
      subst e1 e2
      exact ⟨a1, a2, rfl⟩
set_option maxRecDepth 3000 in
theorem open_entriesM {H : Type} {enc : TypeId × Value → H} {W : World} {fuel : Nat} {v : Value} {x : DataW H × List MemPlace} (hf : DataW.trod enc Try.prog W 0 (fun _ => true) true fuel 26 [v] = some x) : ∃ l, EnR7 W v l := by
  rcases open_slice Try.underlying26 hf with ⟨hcs, _⟩ | ⟨x, l, c, m, n, D, Pl, hcs, _, hl, hm, hmm, _, hi⟩
  · simp at hcs
    subst hcs
    exact ⟨[], ⟨none, 0, rfl, Nat.le_refl _, Nat.zero_le _, rfl, fun _ => rfl, fun hn => absurd hn (by simp)⟩, fun _ hz => by simp at hz⟩
  · simp at hcs
    subst hcs
    simp only [if_true] at hmm
    have H1 : ∀ i, i < l → ∃ d : En, (∀ j, j < 4 → W.cell? (x.add (i * 4 + j)) = (ec d)[j]?) ∧ d.s.size ≤ maxLen := by
      intro i hil
      obtain ⟨cs', hc, ht⟩ := hi i (by omega)
      rw [w_cellsEntry] at hc
      obtain ⟨d, rfl, h1⟩ := open_en ht
      obtain ⟨_, _, hat⟩ := World.cells?_some hc
      refine ⟨d, fun j hj => ?_, h1⟩
      rw [← hat j hj, Go.Deep.add_add]
    obtain ⟨ds, hdl, hd⟩ := w_list_of l H1
    refine ⟨ds, ⟨some x, c, by rw [hdl], by omega, hm, ecs_length _, fun hn => (by cases hn), fun hn => ⟨x, rfl, ?_, ?_⟩⟩, ?_⟩
    · have h0 := (hd 0 hn).1 0 (by decide)
      have := World.block_lt_of_cell? _ _ (h0.trans rfl)
      rwa [add_block] at this
    · intro j u hu
      have hjl : j < (ecs ds).length := (List.getElem?_eq_some_iff.1 hu).1
      rw [ecs_length] at hjl
      have hk : j / 4 < ds.length := by omega
      have hj4 : j % 4 < 4 := by omega
      have e : j = j / 4 * 4 + j % 4 := by omega
      rw [e] at hu ⊢
      rw [(hd (j / 4) hk).1 (j % 4) hj4, ← hu, ecs_at ds (j / 4) (j % 4) hj4 hk]
    · intro d hdm
      obtain ⟨i, hi2, rfl⟩ := List.getElem_of_mem hdm
      exact (hd i hi2).2
/-- A message that came in. -/
def MArg (W : World) (v : Value) : Prop := ∃ (m : Ms) (sv : Value), v = .agg (mc m sv) ∧ WfAm m ∧ EnR7 W sv m.en
set_option maxRecDepth 3000 in
set_option maxHeartbeats 3200000 in
theorem open_msg {H : Type} {enc : TypeId × Value → H} {W : World} {base : Nat} {r : Reach} {v : Value} {d : DataW H} {p : List MemPlace} (hv : Value.okWide Try.prog W r base 28 v) (h : DataW.Trod enc Try.prog W 0 (fun _ => true) true 28 v d p) : MArg W v := by
  obtain ⟨cs, rfl, _⟩ := okWide_struct Try.underlying28 hv
  obtain ⟨fuel, hf⟩ := h
  obtain ⟨xs, mm, _, _, hlen, hxl, hf⟩ := DataW.trod_struct Try.underlying28 hf
  rw [m_cellsM] at hlen
  have e : (Value.agg cs).cells.toList = cs.toList := rfl
  rw [e] at hlen hf
  obtain ⟨c, hc⟩ : ∃ c, c = cs.toList := ⟨_, rfl⟩
  rw [← hc] at hlen hf
  match c, hlen with
  | [c0, c1, c2, c3, c4, c5, c6, c7, c8, c9, c10, c11, c12, c13, c14, c15, c16, c17], _ =>
    match xs, hxl with
    | [y0, y1, y2, y3, y4, y5, y6, y7, y8, y9, y10, y11, y12, y13, y14, y15], _ =>
      have f0 := hf 0 _ rfl
      have f1 := hf 1 _ rfl
      have f2 := hf 2 _ rfl
      have f3 := hf 3 _ rfl
      have f4 := hf 4 _ rfl
      have f5 := hf 5 _ rfl
      have f6 := hf 6 _ rfl
      have f7 := hf 7 _ rfl
      have f8 := hf 8 _ rfl
      have f9 := hf 9 _ rfl
      have f10 := hf 10 _ rfl
      have f11 := hf 11 _ rfl
      have f12 := hf 12 _ rfl
      have f13 := hf 13 _ rfl
      have f14 := hf 14 _ rfl
      have f15 := hf 15 _ rfl
      simp [m_cellsI, m_cellsU, m_cellsS, m_cellsR, m_cellsF, m_cellsE] at f0 f1 f2 f3 f4 f5 f6 f7 f8 f9 f10 f11 f12 f13 f14 f15
      clear hf
      obtain ⟨ty, e0, _, _⟩ := DataW.trod_int Try.underlying3 f0
      obtain ⟨cl, e1, _, _⟩ := DataW.trod_int Try.underlying3 f1
      obtain ⟨ss, e2, _, w2⟩ := DataW.trod_int Try.underlying22 f2
      obtain ⟨sq, e3, _, w3⟩ := DataW.trod_int Try.underlying22 f3
      obtain ⟨bo, e4, _, w4⟩ := DataW.trod_int Try.underlying22 f4
      obtain ⟨kd, e5, _, _⟩ := DataW.trod_int Try.underlying3 f5
      obtain ⟨er, e6, _, _⟩ := DataW.trod_int Try.underlying23 f6
      obtain ⟨fi, fg, e7⟩ := open_fileM f7
      obtain ⟨di, dg, e8⟩ := open_fileM f8
      obtain ⟨nm, e9, _, h9⟩ := DataW.trod_string Try.underlying9 f9
      obtain ⟨ot, e10, _, h10⟩ := DataW.trod_string Try.underlying9 f10
      obtain ⟨mo, e11, _, _⟩ := DataW.trod_int Try.underlying3 f11
      obtain ⟨at_, e12, _, _⟩ := DataW.trod_int Try.underlying3 f12
      obtain ⟨da, e13, _, h13⟩ := DataW.trod_string Try.underlying9 f13
      obtain ⟨ve, e14, _, w14⟩ := DataW.trod_int Try.underlying22 f14
      obtain ⟨l, hl⟩ := open_entriesM f15
      clear f0 f1 f2 f3 f4 f5 f6 f7 f8 f9 f10 f11 f12 f13 f14 f15
      simp at e0 e1 e2 e3 e4 e5 e6 e7 e8 e9 e10 e11 e12 e13 e14
      obtain ⟨rfl, rfl⟩ := e7
      obtain ⟨rfl, rfl⟩ := e8
      subst e0 e1 e2 e3 e4 e5 e6 e9 e10 e11 e12 e13 e14
      obtain ⟨nss, rfl, hss⟩ := mwf_of_u64 w2
      obtain ⟨nsq, rfl, hsq⟩ := mwf_of_u64 w3
      obtain ⟨nbo, rfl, hbo⟩ := mwf_of_u64 w4
      obtain ⟨nve, rfl, hve⟩ := mwf_of_u64 w14
      refine ⟨⟨ty, cl, nss, nsq, nbo, kd, er, fi, fg, di, dg, nm, ot, mo, at_, da, nve, l⟩, c17, ?_, ⟨hss, hsq, hbo, hve, h9, h10, h13⟩, hl⟩
      refine congrArg Value.agg (Array.ext' ?_)
      rw [← hc]
      rfl
set_option maxRecDepth 3000 in
set_option maxHeartbeats 1600000 in
theorem idle16_walk (w : World) (k : Int) (_ : (Lit.int .i64 k).wf = true) : Calls Try.prog 6 #[.int .i64 k] w fun e w' => e = .returned (.bool true) ∧ Below w.heap.size w w' := by
  obtain ⟨b, hb⟩ : ∃ b, b = decide (idleP k) := ⟨_, rfl⟩
  have HID := Lib.hid (fun w => show Calls Try.prog 20 #[.int .i64 k] w fun e w' => e = .returned (.bool b) ∧ w = w' by rw [hb]; exact idle_any k w)
  have HLV := Lib.hid (fun w => lives16_any w)
  by_cases h : 1 ≤ k ∧ k ≤ 14
  · rcases kinds14 h with rfl | rfl | rfl | rfl | rfl | rfl | rfl | rfl | rfl | rfl | rfl | rfl | rfl | rfl <;>
    · clear h
      cases b
      all_goals first
        | (exfalso; revert hb; decide)
        | (clear hb
           go_enter Try.func6, Try.ntmps6
           go_wp2_with (first
             | (go_at_call 20; refine (HID.out _).mono ?_; rintro x wx ⟨rfl, rfl⟩)
             | (go_at_call 15; refine (HLV.out _).mono ?_; rintro x w2 ⟨rfl, a2⟩; have HA := Lib.hid a2; clear a2)
             | fail)
           go_ret
           exact ⟨by first | rfl | simp, HA.out.toBelow⟩)
  · obtain rfl : b = false := hb.trans (decide_eq_false fun x => h ⟨x.1, x.2.1⟩)
    obtain ⟨b1, b2, b3, b4, b5, b6, b7, b8, b9, b10, b11, b12, b13, b14⟩ := kind_eqs h
    have hs : k < 1 ∨ 14 < k := by omega
    clear hb h
    rcases hs with h | h
    · go_enter Try.func6, Try.ntmps6
      go_wp2_with (first
        | (go_at_call 20; refine (HID.out _).mono ?_; rintro x wx ⟨rfl, rfl⟩)
        | (go_at_call 15; refine (HLV.out _).mono ?_; rintro x w2 ⟨rfl, a2⟩; have HA := Lib.hid a2; clear a2)
        | fail)
      go_ret
      exact ⟨by first | rfl | simp, HA.out.toBelow⟩
    · have h1 : 1 ≤ k := by omega
      go_enter Try.func6, Try.ntmps6
      go_wp2_with (first
        | (go_at_call 20; refine (HID.out _).mono ?_; rintro x wx ⟨rfl, rfl⟩)
        | (go_at_call 15; refine (HLV.out _).mono ?_; rintro x w2 ⟨rfl, a2⟩; have HA := Lib.hid a2; clear a2)
        | fail)
      go_ret
      exact ⟨by first | rfl | simp, HA.out.toBelow⟩
end Go.Proofs.Ytpgeebhepegpaaa
