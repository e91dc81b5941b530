/- A piece's sector: the document's Seal; the program's, of what is no piece. -/
import Derived.Test.YtlpdpbhnfhihjaaLpS
import Derived.Deep.DeepCutAuto
namespace Go.Proofs.Ytlpdpbhnfhihjaa
open Go.RowKit

set_option maxRecDepth 3000 in
theorem seal_no (p : Pc) (v : Value) (w : World) (hok : ¬ p.ok) (hv : Rd w 1 v p.d.length (p.d.map u8)) :
    Calls Try.prog 47 #[.agg #[.int .u64 (p.e : Int), .int .u64 (p.c : Int), .bool p.f, .bool p.g, v]] w fun e w' => e = .returned (.tuple #[.slice none 0 0, .int .i64 2]) ∧ Adv Nul w Nul w' := by
  obtain ⟨e, n, f, g, d⟩ := p
  obtain ⟨A, c, rfl, _, hcm⟩ := hv.form
  unfold maxLen at hcm
  by_cases hs : e ≤ 16777215 ∧ n ≤ 1099511627775
  · have hm : (106 : Int) < (d.length : Int) := by
      have : ¬ d.length ≤ 106 := fun h => hok ⟨hs.1, hs.2, h⟩
      omega
    obtain ⟨m, hmm⟩ : ∃ m, m = d.length := ⟨_, rfl⟩
    rw [← hmm] at hm
    simp only [← hmm]
    have HS := Lib.hid hs
    clear hs hok hv hmm hcm
    go_enter Try.func47, Try.ntmps47
    go_wp2_with (first
      | (go_at_call 65; refine (stampok e n HS.out.1 HS.out.2 _).mono ?_; rintro x w1 ⟨rfl, rfl⟩)
      | fail)
    go_ret2
    exact ⟨rfl, (Adv.refl _ _).alloc _⟩
  · have HS := Lib.hid hs
    clear hs hok hv hcm
    go_enter Try.func47, Try.ntmps47
    go_wp2_with (first
      | (go_at_call 65; refine (stampno e n HS.out _).mono ?_; rintro x w1 ⟨rfl, rfl⟩)
      | fail)
    go_ret2
    exact ⟨rfl, (Adv.refl _ _).alloc _⟩

theorem Rd.adv' {w w' : World} {F F' : Nat → Prop} {size n : Nat} {v : Value} {xs : List Value} (h : Rd w size v n xs) (ha : Adv F w F' w') (hs : ∀ k, v.ownBlock = some k → ¬ F k) : Rd w' size v n xs :=
  h.far (fun k hk _ hl => ha.block k hl (hs k hk)) ha.size
theorem Adv.sep_of {w w1 : World} {F G : Nat → Prop} {e : TypeId} {size n : Nat} {v : Value} {xs : List Value} (h : Adv Nul w1 F w) (hs : Sl w1 G e size v n xs) : ∀ k, v.ownBlock = some k → ¬ F k := fun k hk hF => by
  rcases h.into k hF with h1 | h1
  · exact h1
  · exact absurd (hs.bd k (hs.inF k hk)) (by omega)
theorem sealed {e n y : Nat} {f g : Bool} {d Y : List Nat} (hY : Y = front ⟨e, n, f, g, d⟩) (hy : y = fnum (fsum (0, 0) (front ⟨e, n, f, g, d⟩))) : (Y.map u8 ++ (be 4 y).map u8) ++ (be 8 (stamp e n)).map u8 = (sealL ⟨e, n, f, g, d⟩).map u8 := by
  rw [hY, hy, ← List.map_append, ← List.map_append, sealL, List.append_assoc]
def OutR (w : World) (x : List Nat) (n : Nat) (t : Value) (wr : World) : Prop := ∃ a k F, t = .slice a n k ∧ Sl wr F 5 1 (.slice a n k) n (x.map u8) ∧ Adv Nul w F wr
theorem Sl.lup1 {w : World} {F : Nat → Prop} {e : TypeId} {size n : Nat} {v : Value} {xs : List Value} (h : Sl w F e size v n xs) (o : Obj) : Sl (w.alloc o) F e size v n xs :=
  ⟨own_keep h.own fun k hk => Below.heap_alloc _ _ _ (h.bd k (h.inF k hk)), h.inF, fun k hk => Nat.lt_of_lt_of_le (h.bd k hk) (by simp)⟩
theorem Adv.over' {F' : Nat → Prop} {w w1 w2 : World} (h : Adv Nul w Nul w1) (k : Adv Nul w1 F' w2) : Adv Nul w F' w2 := h.trans k
def FillRel (w : World) (x : List Nat) (n : Nat) (t : Value) (wr : World) : Prop :=
  ∃ k F, x.length ≤ k ∧ k ≤ n ∧ Sl wr F 5 1 t k ((x ++ List.replicate (k - x.length) 0).map u8) ∧ Adv Nul w F wr

theorem grow_rd {w wr w1 : World} {F : Nat → Prop} {v v' : Value} {k m n : Nat} {xs ys : List Value} (hS : Sl wr F 5 1 v k xs) (ha : Adv Nul w F wr) (hown : w1.ownsRow 0 5 1 v' n ys) (hg : wr.grownBy w1 v.ownBlock)
    (hat : v'.ownBlock = v.ownBlock ∨ v'.ownBlock = some m) (hm : wr.heap.size ≤ m) : ∃ F', Sl w1 F' 5 1 v' n ys ∧ Adv Nul w F' w1 := by
  obtain ⟨a, _, c⟩ := own_grown hS ha hown hg hat hm
  exact ⟨_, a, c⟩
theorem two_new (w : World) (x y : Nat) : Rd (w.alloc (.cells #[.int .u8 (x : Int), .int .u8 (y : Int)] 5)) 1 (.slice (some ⟨w.heap.size, 0, none⟩) 2 2) 2 ([x, y].map u8) := by
  refine ⟨_, _, rfl, by decide, by unfold maxLen; decide, rfl, fun h => (by cases h), fun _ => ⟨_, rfl, by simp, fun j u hu => ?_⟩⟩
  rw [add_none, Nat.zero_add, (Blk.new w 5 #[.int .u8 (x : Int), .int .u8 (y : Int)]).cell j, List.getElem?_toArray]
  exact hu
end Go.Proofs.Ytlpdpbhnfhihjaa
