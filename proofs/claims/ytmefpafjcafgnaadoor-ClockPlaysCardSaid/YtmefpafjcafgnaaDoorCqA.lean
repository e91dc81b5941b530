/- The document's ring: New, Do. -/
import Derived.Test.YtmefpafjcafgnaaDoorCkC
import Derived.Deep.DeepCutAuto
namespace Go.Proofs.YtmefpafjcafgnaaDoor
open Go.RowKit

def PlAt (cs : Array Value) (i : Nat) (a b c : Bool) : Prop := cs[i * 3]? = some (.bool a) ∧ cs[i * 3 + 1]? = some (.bool b) ∧ cs[i * 3 + 2]? = some (.bool c)
/-- the document's places of s -/
def Pls (w : World) (g : Nat) (s : CS) : Prop := ∃ cs, Blk w g 59 cs ∧ ∀ i, i < s.n → PlAt cs i (s.u.testBit i) (s.p.testBit i) (s.m.testBit i)
structure Qr (w : World) (x g : Nat) (s : CS) : Prop where
  ok : COk s
  blk : Blk w x 46 #[.slice (some ⟨g, 0, none⟩) s.n s.n, .int .i64 (s.h : Int)]
  pls : Pls w g s
  ne : x ≠ g
section
variable {w w' : World} {x g : Nat} {s : CS}
set_option maxRecDepth 3000 in
theorem Qr.keep (h : Qr w x g s) (hx : w'.heap[x]? = w.heap[x]?) (hg : w'.heap[g]? = w.heap[g]?) : Qr w' x g s := by
  obtain ⟨cs, hb, hp⟩ := h.pls
  exact ⟨h.ok, h.blk.keep hx, ⟨cs, hb.keep hg, hp⟩, h.ne⟩
set_option maxRecDepth 3000 in
theorem Qr.xlt (h : Qr w x g s) : x < w.heap.size := h.blk.lt
set_option maxRecDepth 3000 in
theorem Qr.glt (h : Qr w x g s) : g < w.heap.size := by obtain ⟨cs, hb, _⟩ := h.pls; exact hb.lt
set_option maxRecDepth 3000 in
theorem Qr.far {F F' : Nat → Prop} (h : Qr w x g s) (a : Adv F w F' w') (hx : ¬ F x) (hg : ¬ F g) : Qr w' x g s := h.keep (a.block x h.xlt hx) (a.block g h.glt hg)
set_option maxRecDepth 3000 in
theorem Qr.drewN (h : Qr w x g s) (k : Nat) : Qr (w.drewN k) x g s := h.keep rfl rfl
set_option maxRecDepth 3000 in
theorem Qr.drew (h : Qr w x g s) : Qr w.drew x g s := h.keep rfl rfl
end
set_option maxRecDepth 3000 in
theorem pls_put {w : World} {g i : Nat} {s t : CS} (h : Pls w g s) (hi : i < s.n) (hn : t.n = s.n) (a b c : Bool) (ha : ∀ j, t.u.testBit j = if j = i then a else s.u.testBit j) (hb : ∀ j, t.p.testBit j = if j = i then b else s.p.testBit j) (hc : ∀ j, t.m.testBit j = if j = i then c else s.m.testBit j) :
    Pls (((w.setCell ⟨g, i * 3, none⟩ (.bool a)).setCell ⟨g, i * 3 + 1, none⟩ (.bool b)).setCell ⟨g, i * 3 + 2, none⟩ (.bool c)) g t := by
  obtain ⟨cs, hB, hp⟩ := h
  refine ⟨_, ((hB.set_ (i * 3) (.bool a)).set_ (i * 3 + 1) (.bool b)).set_ (i * 3 + 2) (.bool c), fun j hj => ?_⟩
  rw [hn] at hj
  have hsz : i * 3 + 2 < cs.size := by
    have := (hp i hi).2.2
    rcases Nat.lt_or_ge (i * 3 + 2) cs.size with h | h
    · exact h
    · rw [Array.getElem?_eq_none h] at this; cases this
  rw [ha, hb, hc]
  unfold PlAt
  by_cases e : j = i
  · subst e
    rw [if_pos rfl, if_pos rfl, if_pos rfl]
    simp only [Array.getElem?_setIfInBounds, Array.size_setIfInBounds]
    refine ⟨?_, ?_, ?_⟩ <;> simp <;> omega
  · rw [if_neg e, if_neg e, if_neg e]
    obtain ⟨q0, q1, q2⟩ := hp j hj
    simp only [Array.getElem?_setIfInBounds, Array.size_setIfInBounds]
    refine ⟨?_, ?_, ?_⟩ <;> rw [if_neg (by omega), if_neg (by omega), if_neg (by omega)] <;> assumption
set_option maxRecDepth 3000 in
theorem qr_put {w : World} {x g i : Nat} {s t : CS} (h : Qr w x g s) (hi : i < s.n) (ht : COk t) (hn : t.n = s.n) (hh : t.h = s.h) (a b c : Bool) (ha : ∀ j, t.u.testBit j = if j = i then a else s.u.testBit j) (hb : ∀ j, t.p.testBit j = if j = i then b else s.p.testBit j) (hc : ∀ j, t.m.testBit j = if j = i then c else s.m.testBit j) (B : Obj) :
    Qr ((((w.setCell ⟨g, i * 3, none⟩ (.bool a)).setCell ⟨g, i * 3 + 1, none⟩ (.bool b)).setCell ⟨g, i * 3 + 2, none⟩ (.bool c)).alloc B).drew x g t ∧
    Adv (Two2 x g) w (Two2 x g) ((((w.setCell ⟨g, i * 3, none⟩ (.bool a)).setCell ⟨g, i * 3 + 1, none⟩ (.bool b)).setCell ⟨g, i * 3 + 2, none⟩ (.bool c)).alloc B).drew := by
  have hP := pls_put h.pls hi hn a b c ha hb hc
  have hA : Adv (Two2 x g) w (Two2 x g) (((w.setCell ⟨g, i * 3, none⟩ (.bool a)).setCell ⟨g, i * 3 + 1, none⟩ (.bool b)).setCell ⟨g, i * 3 + 2, none⟩ (.bool c)) :=
    (((Adv.refl (Two2 x g) w).setCell (p := ⟨g, i * 3, none⟩) (.inl (.inr rfl)) _).setCell (p := ⟨g, i * 3 + 1, none⟩) (.inl (.inr rfl)) _).setCell (p := ⟨g, i * 3 + 2, none⟩) (.inl (.inr rfl)) _
  have hX : Blk (((w.setCell ⟨g, i * 3, none⟩ (.bool a)).setCell ⟨g, i * 3 + 1, none⟩ (.bool b)).setCell ⟨g, i * 3 + 2, none⟩ (.bool c)) x 46 #[.slice (some ⟨g, 0, none⟩) s.n s.n, .int .i64 (s.h : Int)] :=
    ((h.blk.far h.ne _).far h.ne _).far h.ne _
  refine ⟨⟨ht, ?_, ?_, h.ne⟩, (hA.alloc B).drewN 1⟩
  · rw [hn, hh]
    exact (hX.alloc B).drew
  · obtain ⟨cs, hb, hp⟩ := hP
    exact ⟨cs, (hb.alloc B).drew, hp⟩
set_option maxRecDepth 3000 in
theorem qr_same {w : World} {x g : Nat} {s : CS} (h : Qr w x g s) (B : Obj) : Qr (w.alloc B) x g s ∧ Adv (Two2 x g) w (Two2 x g) (w.alloc B) :=
  ⟨h.keep (Below.heap_alloc _ _ _ h.xlt) (Below.heap_alloc _ _ _ h.glt), (Adv.refl _ _).alloc B⟩
set_option maxRecDepth 3000 in
theorem pb_yes (x i : Nat) : ∀ j, (pput x i).testBit j = if j = i then true else x.testBit j := fun j => by rw [pput_bit]; by_cases e : j = i <;> simp [e]
set_option maxRecDepth 3000 in
theorem pb_no {x i n : Nat} (hx : x < 18446744073709551616) (hn : n ≤ 64) (hi : i < n) : ∀ j, (ddrop x i).testBit j = if j = i then false else x.testBit j := fun j => by rw [ddrop_bit hx (by omega)]; by_cases e : j = i <;> simp [e]
set_option maxRecDepth 3000 in
theorem pb_same (x i : Nat) : ∀ j, x.testBit j = if j = i then x.testBit i else x.testBit j := fun j => by by_cases e : j = i <;> simp [e]
set_option maxRecDepth 3000 in
theorem do2_eq {s : CS} {i : Nat} (hb : s.u.testBit i = true) : doS 2 s i = { s with m := pput s.m i } := by unfold doS; rw [if_neg (by decide), if_neg (by decide), if_pos rfl, if_pos hb]
set_option maxRecDepth 3000 in
theorem do3_eq {s : CS} {i : Nat} (hb : s.u.testBit i = true) : doS 3 s i = { s with p := pput s.p i } := by unfold doS; rw [if_neg (by decide), if_neg (by decide), if_neg (by decide), if_pos rfl, if_pos hb]
set_option maxRecDepth 3000 in
theorem do2_no {s : CS} {i : Nat} (hb : s.u.testBit i = false) : doS 2 s i = s := by unfold doS; rw [if_neg (by decide), if_neg (by decide), if_pos rfl, if_neg (by rw [hb]; decide)]
set_option maxRecDepth 3000 in
theorem do3_no {s : CS} {i : Nat} (hb : s.u.testBit i = false) : doS 3 s i = s := by unfold doS; rw [if_neg (by decide), if_neg (by decide), if_neg (by decide), if_pos rfl, if_neg (by rw [hb]; decide)]
set_option maxRecDepth 3000 in
theorem do2_ok {s : CS} {i : Nat} (h : COk s) (hi : i < s.n) (hb : s.u.testBit i = true) : COk { s with m := pput s.m i } := by rw [← do2_eq hb]; exact doS_ok h hi
set_option maxRecDepth 3000 in
theorem do3_ok {s : CS} {i : Nat} (h : COk s) (hi : i < s.n) (hb : s.u.testBit i = true) : COk { s with p := pput s.p i } := by rw [← do3_eq hb]; exact doS_ok h hi

set_option maxRecDepth 3000 in
set_option maxHeartbeats 800000 in
theorem qdo0 (w : World) (x g : Nat) (s : CS) (h : Qr w x g s) (i : Nat) (hi : i < s.n) : Calls Tryd.prog 9 #[.pointer (some ⟨x, 0, none⟩), .int .i64 0, .int .i64 (i : Int)] w fun e w' => e = .returned (.int .i64 0) ∧ Qr w' x g (doS 0 s i) ∧ Adv (Two2 x g) w (Two2 x g) w' := by
  obtain ⟨cs, hb, hp⟩ := h.pls
  obtain ⟨p0, p1, p2⟩ := hp i hi
  have c0 : w.cell? ⟨x, 0, none⟩ = some (.slice (some ⟨g, 0, none⟩) s.n s.n) := h.blk.cell 0
  have g0 : w.cell? ⟨g, i * 3, none⟩ = some (.bool (s.u.testBit i)) := (hb.cell _).trans p0
  have g1 : w.cell? ⟨g, i * 3 + 1, none⟩ = some (.bool (s.p.testBit i)) := (hb.cell _).trans p1
  have g2 : w.cell? ⟨g, i * 3 + 2, none⟩ = some (.bool (s.m.testBit i)) := (hb.cell _).trans p2
  have f0 : w.frozen? ⟨g, i * 3, none⟩ = false := hb.frozen _
  have f1 : w.frozen? ⟨g, i * 3 + 1, none⟩ = false := hb.frozen _
  have f2 : w.frozen? ⟨g, i * 3 + 2, none⟩ = false := hb.frozen _
  have h1 : (0 : Int) ≤ (i : Int) := by omega
  have hi' : (i : Int) < (s.n : Int) := by omega
  have hn : (s.n : Int) ≤ 64 := by have := h.ok.hi; omega
  have hgl : g < w.heap.size := hb.lt
  have hxl : x < w.heap.size := h.blk.lt
  have HQ := Lib.hid (qr_put h hi (doS_ok (k := 0) h.ok hi) rfl rfl true false true (pb_yes s.u i) (pb_no h.ok.p64 h.ok.hi hi) (pb_yes s.m i))
  generalize s.u.testBit i = bu at g0 HQ
  generalize s.p.testBit i = bp at g1 HQ
  generalize s.m.testBit i = bm at g2 HQ
  obtain ⟨n, hne⟩ : ∃ n, n = s.n := ⟨_, rfl⟩
  rw [← hne] at c0 hi' hn
  clear hb hp p0 p1 p2 h hi hne
  all_goals go_enter Tryd.func9, Tryd.ntmps9
  all_goals go_upto_region 16 with (fail)
  all_goals go_region
  all_goals go_wp2
  all_goals go_ret
  all_goals exact ⟨rfl, HQ.out _⟩
set_option maxRecDepth 3000 in
set_option maxHeartbeats 800000 in
theorem qdo1 (w : World) (x g : Nat) (s : CS) (h : Qr w x g s) (i : Nat) (hi : i < s.n) : Calls Tryd.prog 9 #[.pointer (some ⟨x, 0, none⟩), .int .i64 1, .int .i64 (i : Int)] w fun e w' => e = .returned (.int .i64 0) ∧ Qr w' x g (doS 1 s i) ∧ Adv (Two2 x g) w (Two2 x g) w' := by
  obtain ⟨cs, hb, hp⟩ := h.pls
  obtain ⟨p0, p1, p2⟩ := hp i hi
  have c0 : w.cell? ⟨x, 0, none⟩ = some (.slice (some ⟨g, 0, none⟩) s.n s.n) := h.blk.cell 0
  have g0 : w.cell? ⟨g, i * 3, none⟩ = some (.bool (s.u.testBit i)) := (hb.cell _).trans p0
  have g1 : w.cell? ⟨g, i * 3 + 1, none⟩ = some (.bool (s.p.testBit i)) := (hb.cell _).trans p1
  have g2 : w.cell? ⟨g, i * 3 + 2, none⟩ = some (.bool (s.m.testBit i)) := (hb.cell _).trans p2
  have f0 : w.frozen? ⟨g, i * 3, none⟩ = false := hb.frozen _
  have f1 : w.frozen? ⟨g, i * 3 + 1, none⟩ = false := hb.frozen _
  have f2 : w.frozen? ⟨g, i * 3 + 2, none⟩ = false := hb.frozen _
  have h1 : (0 : Int) ≤ (i : Int) := by omega
  have hi' : (i : Int) < (s.n : Int) := by omega
  have hn : (s.n : Int) ≤ 64 := by have := h.ok.hi; omega
  have hgl : g < w.heap.size := hb.lt
  have hxl : x < w.heap.size := h.blk.lt
  have HQ := Lib.hid (qr_put h hi (doS_ok (k := 1) h.ok hi) rfl rfl false false false (pb_no h.ok.u64 h.ok.hi hi) (pb_no h.ok.p64 h.ok.hi hi) (pb_no h.ok.m64 h.ok.hi hi))
  generalize s.u.testBit i = bu at g0 HQ
  generalize s.p.testBit i = bp at g1 HQ
  generalize s.m.testBit i = bm at g2 HQ
  obtain ⟨n, hne⟩ : ∃ n, n = s.n := ⟨_, rfl⟩
  rw [← hne] at c0 hi' hn
  clear hb hp p0 p1 p2 h hi hne
  all_goals go_enter Tryd.func9, Tryd.ntmps9
  all_goals go_upto_region 16 with (fail)
  all_goals go_region
  all_goals go_wp2
  all_goals go_ret
  all_goals exact ⟨rfl, HQ.out _⟩
set_option maxRecDepth 3000 in
set_option maxHeartbeats 800000 in
theorem qdo2 (w : World) (x g : Nat) (s : CS) (h : Qr w x g s) (i : Nat) (hi : i < s.n) (hbu : s.u.testBit i = true) : Calls Tryd.prog 9 #[.pointer (some ⟨x, 0, none⟩), .int .i64 2, .int .i64 (i : Int)] w fun e w' => e = .returned (.int .i64 0) ∧ Qr w' x g { s with m := pput s.m i } ∧ Adv (Two2 x g) w (Two2 x g) w' := by
  obtain ⟨cs, hb, hp⟩ := h.pls
  obtain ⟨p0, p1, p2⟩ := hp i hi
  have c0 : w.cell? ⟨x, 0, none⟩ = some (.slice (some ⟨g, 0, none⟩) s.n s.n) := h.blk.cell 0
  have g0 : w.cell? ⟨g, i * 3, none⟩ = some (.bool (s.u.testBit i)) := (hb.cell _).trans p0
  have g1 : w.cell? ⟨g, i * 3 + 1, none⟩ = some (.bool (s.p.testBit i)) := (hb.cell _).trans p1
  have g2 : w.cell? ⟨g, i * 3 + 2, none⟩ = some (.bool (s.m.testBit i)) := (hb.cell _).trans p2
  have f0 : w.frozen? ⟨g, i * 3, none⟩ = false := hb.frozen _
  have f1 : w.frozen? ⟨g, i * 3 + 1, none⟩ = false := hb.frozen _
  have f2 : w.frozen? ⟨g, i * 3 + 2, none⟩ = false := hb.frozen _
  have h1 : (0 : Int) ≤ (i : Int) := by omega
  have hi' : (i : Int) < (s.n : Int) := by omega
  have hn : (s.n : Int) ≤ 64 := by have := h.ok.hi; omega
  have hgl : g < w.heap.size := hb.lt
  have hxl : x < w.heap.size := h.blk.lt
  rw [hbu] at g0
  have HQ := Lib.hid (qr_put h hi (do2_ok h.ok hi hbu) rfl rfl true (s.p.testBit i) true (fun j => by by_cases e : j = i <;> simp [e, hbu]) (pb_same s.p i) (pb_yes s.m i))
  generalize s.p.testBit i = bp at g1 HQ
  generalize s.m.testBit i = bm at g2 HQ
  obtain ⟨n, hne⟩ : ∃ n, n = s.n := ⟨_, rfl⟩
  rw [← hne] at c0 hi' hn
  clear hb hp p0 p1 p2 h hi hne hbu
  cases bp <;> cases bm
  all_goals go_enter Tryd.func9, Tryd.ntmps9
  all_goals go_upto_region 16 with (fail)
  all_goals go_region
  all_goals go_wp2
  all_goals go_ret
  all_goals exact ⟨rfl, HQ.out _⟩
set_option maxRecDepth 3000 in
set_option maxHeartbeats 800000 in
theorem qdo3 (w : World) (x g : Nat) (s : CS) (h : Qr w x g s) (i : Nat) (hi : i < s.n) (hbu : s.u.testBit i = true) : Calls Tryd.prog 9 #[.pointer (some ⟨x, 0, none⟩), .int .i64 3, .int .i64 (i : Int)] w fun e w' => e = .returned (.int .i64 0) ∧ Qr w' x g { s with p := pput s.p i } ∧ Adv (Two2 x g) w (Two2 x g) w' := by
  obtain ⟨cs, hb, hp⟩ := h.pls
  obtain ⟨p0, p1, p2⟩ := hp i hi
  have c0 : w.cell? ⟨x, 0, none⟩ = some (.slice (some ⟨g, 0, none⟩) s.n s.n) := h.blk.cell 0
  have g0 : w.cell? ⟨g, i * 3, none⟩ = some (.bool (s.u.testBit i)) := (hb.cell _).trans p0
  have g1 : w.cell? ⟨g, i * 3 + 1, none⟩ = some (.bool (s.p.testBit i)) := (hb.cell _).trans p1
  have g2 : w.cell? ⟨g, i * 3 + 2, none⟩ = some (.bool (s.m.testBit i)) := (hb.cell _).trans p2
  have f0 : w.frozen? ⟨g, i * 3, none⟩ = false := hb.frozen _
  have f1 : w.frozen? ⟨g, i * 3 + 1, none⟩ = false := hb.frozen _
  have f2 : w.frozen? ⟨g, i * 3 + 2, none⟩ = false := hb.frozen _
  have h1 : (0 : Int) ≤ (i : Int) := by omega
  have hi' : (i : Int) < (s.n : Int) := by omega
  have hn : (s.n : Int) ≤ 64 := by have := h.ok.hi; omega
  have hgl : g < w.heap.size := hb.lt
  have hxl : x < w.heap.size := h.blk.lt
  rw [hbu] at g0
  have HQ := Lib.hid (qr_put h hi (do3_ok h.ok hi hbu) rfl rfl true true (s.m.testBit i) (fun j => by by_cases e : j = i <;> simp [e, hbu]) (pb_yes s.p i) (pb_same s.m i))
  generalize s.p.testBit i = bp at g1 HQ
  generalize s.m.testBit i = bm at g2 HQ
  obtain ⟨n, hne⟩ : ∃ n, n = s.n := ⟨_, rfl⟩
  rw [← hne] at c0 hi' hn
  clear hb hp p0 p1 p2 h hi hne hbu
  cases bp <;> cases bm
  all_goals go_enter Tryd.func9, Tryd.ntmps9
  all_goals go_upto_region 16 with (fail)
  all_goals go_region
  all_goals go_wp2
  all_goals go_ret
  all_goals exact ⟨rfl, HQ.out _⟩
set_option maxRecDepth 3000 in
set_option maxHeartbeats 800000 in
theorem qdo2n (w : World) (x g : Nat) (s : CS) (h : Qr w x g s) (i : Nat) (hi : i < s.n) (hbu : s.u.testBit i = false) : Calls Tryd.prog 9 #[.pointer (some ⟨x, 0, none⟩), .int .i64 2, .int .i64 (i : Int)] w fun e w' => e = .returned (.int .i64 11) ∧ Qr w' x g s ∧ Adv (Two2 x g) w (Two2 x g) w' := by
  obtain ⟨cs, hb, hp⟩ := h.pls
  obtain ⟨p0, p1, p2⟩ := hp i hi
  have c0 : w.cell? ⟨x, 0, none⟩ = some (.slice (some ⟨g, 0, none⟩) s.n s.n) := h.blk.cell 0
  have g0 : w.cell? ⟨g, i * 3, none⟩ = some (.bool (s.u.testBit i)) := (hb.cell _).trans p0
  have g1 : w.cell? ⟨g, i * 3 + 1, none⟩ = some (.bool (s.p.testBit i)) := (hb.cell _).trans p1
  have g2 : w.cell? ⟨g, i * 3 + 2, none⟩ = some (.bool (s.m.testBit i)) := (hb.cell _).trans p2
  have f0 : w.frozen? ⟨g, i * 3, none⟩ = false := hb.frozen _
  have f1 : w.frozen? ⟨g, i * 3 + 1, none⟩ = false := hb.frozen _
  have f2 : w.frozen? ⟨g, i * 3 + 2, none⟩ = false := hb.frozen _
  have h1 : (0 : Int) ≤ (i : Int) := by omega
  have hi' : (i : Int) < (s.n : Int) := by omega
  have hn : (s.n : Int) ≤ 64 := by have := h.ok.hi; omega
  have hgl : g < w.heap.size := hb.lt
  have hxl : x < w.heap.size := h.blk.lt
  rw [hbu] at g0
  have HQ := Lib.hid (qr_same h)
  generalize s.p.testBit i = bp at g1 HQ
  generalize s.m.testBit i = bm at g2 HQ
  obtain ⟨n, hne⟩ : ∃ n, n = s.n := ⟨_, rfl⟩
  rw [← hne] at c0 hi' hn
  clear hb hp p0 p1 p2 h hi hne hbu
  all_goals go_enter Tryd.func9, Tryd.ntmps9
  go_wp2_with fail
  all_goals go_ret
  all_goals exact ⟨rfl, HQ.out _⟩
set_option maxRecDepth 3000 in
set_option maxHeartbeats 800000 in
theorem qdo3n (w : World) (x g : Nat) (s : CS) (h : Qr w x g s) (i : Nat) (hi : i < s.n) (hbu : s.u.testBit i = false) : Calls Tryd.prog 9 #[.pointer (some ⟨x, 0, none⟩), .int .i64 3, .int .i64 (i : Int)] w fun e w' => e = .returned (.int .i64 11) ∧ Qr w' x g s ∧ Adv (Two2 x g) w (Two2 x g) w' := by
  obtain ⟨cs, hb, hp⟩ := h.pls
  obtain ⟨p0, p1, p2⟩ := hp i hi
  have c0 : w.cell? ⟨x, 0, none⟩ = some (.slice (some ⟨g, 0, none⟩) s.n s.n) := h.blk.cell 0
  have g0 : w.cell? ⟨g, i * 3, none⟩ = some (.bool (s.u.testBit i)) := (hb.cell _).trans p0
  have g1 : w.cell? ⟨g, i * 3 + 1, none⟩ = some (.bool (s.p.testBit i)) := (hb.cell _).trans p1
  have g2 : w.cell? ⟨g, i * 3 + 2, none⟩ = some (.bool (s.m.testBit i)) := (hb.cell _).trans p2
  have f0 : w.frozen? ⟨g, i * 3, none⟩ = false := hb.frozen _
  have f1 : w.frozen? ⟨g, i * 3 + 1, none⟩ = false := hb.frozen _
  have f2 : w.frozen? ⟨g, i * 3 + 2, none⟩ = false := hb.frozen _
  have h1 : (0 : Int) ≤ (i : Int) := by omega
  have hi' : (i : Int) < (s.n : Int) := by omega
  have hn : (s.n : Int) ≤ 64 := by have := h.ok.hi; omega
  have hgl : g < w.heap.size := hb.lt
  have hxl : x < w.heap.size := h.blk.lt
  rw [hbu] at g0
  have HQ := Lib.hid (qr_same h)
  generalize s.p.testBit i = bp at g1 HQ
  generalize s.m.testBit i = bm at g2 HQ
  obtain ⟨n, hne⟩ : ∃ n, n = s.n := ⟨_, rfl⟩
  rw [← hne] at c0 hi' hn
  clear hb hp p0 p1 p2 h hi hne hbu
  all_goals go_enter Tryd.func9, Tryd.ntmps9
  go_wp2_with fail
  all_goals go_ret
  all_goals exact ⟨rfl, HQ.out _⟩
set_option maxRecDepth 3000 in
set_option maxHeartbeats 800000 in
theorem qdo4 (w : World) (x g : Nat) (s : CS) (h : Qr w x g s) (i : Nat) (hi : i < s.n) (k : Int) (p0' : (k == 0) = false) (p1' : (k == 1) = false) (p2' : (k == 2) = false) (p3' : (k == 3) = false) : Calls Tryd.prog 9 #[.pointer (some ⟨x, 0, none⟩), .int .i64 k, .int .i64 (i : Int)] w fun e w' => e = .returned (.int .i64 0) ∧ Qr w' x g (doS 4 s i) ∧ Adv (Two2 x g) w (Two2 x g) w' := by
  obtain ⟨cs, hb, hp⟩ := h.pls
  obtain ⟨p0, p1, p2⟩ := hp i hi
  have c0 : w.cell? ⟨x, 0, none⟩ = some (.slice (some ⟨g, 0, none⟩) s.n s.n) := h.blk.cell 0
  have g0 : w.cell? ⟨g, i * 3, none⟩ = some (.bool (s.u.testBit i)) := (hb.cell _).trans p0
  have g1 : w.cell? ⟨g, i * 3 + 1, none⟩ = some (.bool (s.p.testBit i)) := (hb.cell _).trans p1
  have g2 : w.cell? ⟨g, i * 3 + 2, none⟩ = some (.bool (s.m.testBit i)) := (hb.cell _).trans p2
  have f0 : w.frozen? ⟨g, i * 3, none⟩ = false := hb.frozen _
  have f1 : w.frozen? ⟨g, i * 3 + 1, none⟩ = false := hb.frozen _
  have f2 : w.frozen? ⟨g, i * 3 + 2, none⟩ = false := hb.frozen _
  have h1 : (0 : Int) ≤ (i : Int) := by omega
  have hi' : (i : Int) < (s.n : Int) := by omega
  have hn : (s.n : Int) ≤ 64 := by have := h.ok.hi; omega
  have hgl : g < w.heap.size := hb.lt
  have hxl : x < w.heap.size := h.blk.lt
  have HQ := Lib.hid (qr_put h hi (doS_ok (k := 4) h.ok hi) rfl rfl (s.u.testBit i) false (s.m.testBit i) (pb_same s.u i) (pb_no h.ok.p64 h.ok.hi hi) (pb_same s.m i))
  generalize s.u.testBit i = bu at g0 HQ
  generalize s.p.testBit i = bp at g1 HQ
  generalize s.m.testBit i = bm at g2 HQ
  obtain ⟨n, hne⟩ : ∃ n, n = s.n := ⟨_, rfl⟩
  rw [← hne] at c0 hi' hn
  clear hb hp p0 p1 p2 h hi hne
  all_goals go_enter Tryd.func9, Tryd.ntmps9
  all_goals go_upto_region 16 with (fail)
  all_goals go_region
  all_goals go_wp2
  all_goals go_ret
  all_goals exact ⟨rfl, HQ.out _⟩
set_option maxRecDepth 3000 in
theorem qdo_out (w : World) (x g : Nat) (s : CS) (h : Qr w x g s) (k i : Int) (hi : ¬ hereC s i) : Calls Tryd.prog 9 #[.pointer (some ⟨x, 0, none⟩), .int .i64 k, .int .i64 i] w fun e w' => e = .returned (.int .i64 2) ∧ w = w' := by
  have c0 : w.cell? ⟨x, 0, none⟩ = some (.slice (some ⟨g, 0, none⟩) s.n s.n) := h.blk.cell 0
  by_cases h1 : i < 0
  · clear hi h
    go_enter Tryd.func9, Tryd.ntmps9
    go_wp2
    go_ret
    exact ⟨rfl, rfl⟩
  · have h2 : (s.n : Int) ≤ i := by unfold hereC at hi; omega
    have h3 : 0 ≤ i := by omega
    clear hi h h1
    go_enter Tryd.func9, Tryd.ntmps9
    go_wp2
    go_ret
    exact ⟨rfl, rfl⟩
set_option maxRecDepth 3000 in
theorem qdo_any (w : World) (x g : Nat) (s : CS) (h : Qr w x g s) (k i : Int) : Calls Tryd.prog 9 #[.pointer (some ⟨x, 0, none⟩), .int .i64 k, .int .i64 i] w fun e w' => e = .returned (.int .i64 (doE k s i)) ∧ Qr w' x g (doC k s i) ∧ Adv (Two2 x g) w (Two2 x g) w' := by
  by_cases hh : hereC s i
  · obtain ⟨j, rfl, hj⟩ := hereC_nat hh
    have e1 : doC k s (j : Int) = doS k s j := by unfold doC; rw [if_pos hh, Int.toNat_natCast]
    have e2 : doE k s (j : Int) = if (k = 2 ∨ k = 3) ∧ s.u.testBit j = false then 11 else 0 := by unfold doE; rw [if_pos hh, Int.toNat_natCast]
    rw [e1, e2]
    by_cases h0 : k = 0
    · subst h0
      rw [if_neg (by rintro ⟨h | h, _⟩ <;> cases h)]
      exact qdo0 w x g s h j hj
    by_cases h1 : k = 1
    · subst h1
      rw [if_neg (by rintro ⟨h | h, _⟩ <;> cases h)]
      exact qdo1 w x g s h j hj
    by_cases h2 : k = 2
    · subst h2
      cases hb : s.u.testBit j
      · rw [if_pos ⟨.inl rfl, rfl⟩, do2_no hb]
        exact qdo2n w x g s h j hj hb
      · rw [if_neg (by rintro ⟨_, h⟩; cases h), do2_eq hb]
        exact qdo2 w x g s h j hj hb
    by_cases h3 : k = 3
    · subst h3
      cases hb : s.u.testBit j
      · rw [if_pos ⟨.inr rfl, rfl⟩, do3_no hb]
        exact qdo3n w x g s h j hj hb
      · rw [if_neg (by rintro ⟨_, h⟩; cases h), do3_eq hb]
        exact qdo3 w x g s h j hj hb
    rw [if_neg (by rintro ⟨h | h, _⟩; exact h2 h; exact h3 h)]
    have e : doS k s j = doS 4 s j := by unfold doS; rw [if_neg h0, if_neg h1, if_neg h2, if_neg h3]; rfl
    rw [e]
    exact qdo4 w x g s h j hj k (by simp [h0]) (by simp [h1]) (by simp [h2]) (by simp [h3])
  · have e1 : doC k s i = s := if_neg hh
    have e2 : doE k s i = 2 := if_neg hh
    rw [e1, e2]
    refine (qdo_out w x g s h k i hh).mono ?_
    rintro e w' ⟨rfl, rfl⟩
    exact ⟨rfl, h, Adv.refl _ _⟩
end Go.Proofs.YtmefpafjcafgnaaDoor
