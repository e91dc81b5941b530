/- Lists of numbers: grown by one; held against each other. -/
import Derived.Test.YtmefpafjcafgnaaDoorR01
import Derived.Deep.RegionWith
namespace Go.Proofs.YtmefpafjcafgnaaDoor
open Go.ChangeShapes Go.WideShapes Go.ChangeAt Go.RowKit

set_option maxRecDepth 3000 in
theorem one_grownF {e : TypeId} {wr w1 : World} {F : Nat → Prop} {v v' : Value} {k m : Nat} {xs ys : List Value} {o : Obj} (hS : Sl wr F e 1 v k xs) (hown : w1.ownsRow 0 e 1 v' (k + 1) ys) (hg : (wr.alloc o).grownBy w1 v.ownBlock)
    (hat : v'.ownBlock = v.ownBlock ∨ v'.ownBlock = some m) (hm : wr.heap.size ≤ m) : Sl w1 (fun j => F j ∨ v'.ownBlock = some j) e 1 v' (k + 1) ys ∧ Adv F wr (fun j => F j ∨ v'.ownBlock = some j) w1 := by
  have hF' : ∀ j, (F j ∨ v'.ownBlock = some j) → F j ∨ wr.heap.size ≤ j := by
    rintro j (h | h)
    · exact .inl h
    · rcases hat with q | q
      · exact .inl (hS.inF j (by rw [← q]; exact h))
      · rw [q] at h; injection h with h; right; omega
  have hA : Adv F wr (fun j => F j ∨ v'.ownBlock = some j) w1 := by
    have h1 := ((Adv.refl F wr).alloc o).grown hg (fun j hj => .inl (hS.inF j hj))
    exact ⟨h1.os, h1.tape, h1.output, h1.size, h1.block, hF'⟩
  refine ⟨⟨hown, fun j hj => .inr hj, ?_⟩, hA⟩
  rintro j (h | h)
  · exact Nat.lt_of_lt_of_le (hS.bd j h) hA.size
  · exact (hown.lt j h).2
set_option maxRecDepth 3000 in
theorem one_grownE {e : TypeId} {w wr w1 : World} {F : Nat → Prop} {v v' : Value} {k m : Nat} {xs ys : List Value} {o : Obj} (hS : Sl wr F e 1 v k xs) (ha : Adv Nul w F wr) (hown : w1.ownsRow 0 e 1 v' (k + 1) ys) (hg : (wr.alloc o).grownBy w1 v.ownBlock)
    (hat : v'.ownBlock = v.ownBlock ∨ v'.ownBlock = some m) (hm : wr.heap.size ≤ m) : Sl w1 (fun j => F j ∨ v'.ownBlock = some j) e 1 v' (k + 1) ys ∧ Adv Nul w (fun j => F j ∨ v'.ownBlock = some j) w1 := by
  obtain ⟨h1, h2⟩ := one_grownF hS hown hg hat hm
  exact ⟨h1, ha.trans h2⟩

set_option maxRecDepth 3000 in
theorem same_ints (v1 v2 : Value) (n : Nat) (l : List Int) (w : World) (h1 : Rd w 1 v1 n (l.map (Value.int .i64))) (h2 : Rd w 1 v2 n (l.map (Value.int .i64))) :
    Calls Tryd.prog 13 #[v1, v2] w fun e w' => e = .returned (.bool true) ∧ ∃ k, w' = w.drewN k := by
  obtain ⟨A1, c1, rfl, _, _⟩ := h1.form
  obtain ⟨A2, c2, rfl, _, hc2⟩ := h2.form
  unfold maxLen at hc2
  have hl : l.length = n := by obtain ⟨_, _, _, _, _, h, _⟩ := h1; simpa using h
  have H1 := Lib.hid h1
  have H2 := Lib.hid h2
  have HL := Lib.hid hl
  clear h1 h2 hl
  go_enter Tryd.func13, Tryd.ntmps13
  go_wp2_with fail
  go_loopw [5] (fun t wr => ∃ k : Nat, t = .int .i64 ((k : Nat) : Int) ∧ k ≤ n ∧ ∃ j, wr = w.drewN j) (fun t _ => n - (intOf t).toNat)
  case atStart => exact ⟨0, rfl, Nat.zero_le _, 0, rfl⟩
  case round =>
    obtain ⟨k, rfl, hk, j, rfl⟩ := hrel
    by_cases hlt : k < n
    · obtain ⟨b1, o1, rfl, _, g1⟩ := H1.out.cells (by omega) (by decide)
      obtain ⟨b2, o2, rfl, _, g2⟩ := H2.out.cells (by omega) (by decide)
      have hkl : k < l.length := by have := HL.out; omega
      have c1' : w.cell? ⟨b1, o1 + k, none⟩ = some (.int .i64 l[k]) := g1 k _ (by rw [List.getElem?_map, List.getElem?_eq_getElem hkl]; rfl)
      have c2' : w.cell? ⟨b2, o2 + k, none⟩ = some (.int .i64 l[k]) := g2 k _ (by rw [List.getElem?_map, List.getElem?_eq_getElem hkl]; rfl)
      obtain ⟨x, hx⟩ : ∃ x, x = l[k] := ⟨_, rfl⟩
      rw [← hx] at c1' c2'
      clear g1 g2 hx hkl
      go_wp2_with fail
      go_quiet (fail)
      go_wp2
      exact ⟨⟨k + 1, by simp, by omega, _, rfl⟩, by simp [intOf]; omega⟩
    · obtain rfl : k = n := by omega
      go_wp2
      go_ret
      exact ⟨rfl, _, rfl⟩

set_option maxRecDepth 3000 in
theorem infoInt7 : (Tryd.prog.info? 3).map (fun i => (i.zero, i.size, i.bytes)) = some (some (.int .i64 0), 1, 8) := by kernel_rfl
end Go.Proofs.YtmefpafjcafgnaaDoor
