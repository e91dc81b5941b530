/- The writer's state, and the walk of its lay. -/
import Derived.Test.YtpgeebhepegpaaaMath
import Derived.Test.YtpgeebhepegpaaaBase
namespace Go.Proofs.Ytpgeebhepegpaaa
open Go.RowKit

/-- The writer at block b, with blocks F, has m bits: those of N. -/
structure WSt (w : World) (F : Nat → Prop) (b N m : Nat) : Prop where
  ex : ∃ rowv, Blk w b 96 #[.bool true, .int .i64 0, rowv, .int .i64 (pad m)] ∧ Sl w F 5 1 rowv (qn m) ((rowOf N m).map u8)
  inF : F b
  lt : N < 2 ^ m

theorem WSt.drew {w : World} {F : Nat → Prop} {b N m : Nat} (h : WSt w F b N m) : WSt w.drew F b N m :=
  ⟨let ⟨r, h1, h2⟩ := h.ex; ⟨r, h1, h2.drew⟩, h.inF, h.lt⟩

/-- The middle of lay: r bits of the last byte are free. -/
structure Mid (w : World) (F : Nat → Prop) (b g q cap N r : Nat) : Prop where
  blk : Blk w b 96 #[.bool true, .int .i64 0, .slice (some ⟨g, 0, none⟩) q cap, .int .i64 r]
  sl : Sl w F 5 1 (.slice (some ⟨g, 0, none⟩) q cap) q ((be q (N * 2 ^ r)).map u8)
  inF : F b
  ne : g ≠ b

/-- a nought byte is put behind -/
theorem Mid.grown {w1 : World} {F : Nat → Prop} {b g q cap N : Nat} {v : Value} (hB : Blk w1 b 96 #[.bool true, .int .i64 0, v, .int .i64 0]) (hown : w1.ownsRow 0 5 1 (.slice (some ⟨g, 0, none⟩) (q + 1) cap) (q + 1) ((be q N).map u8 ++ [.int .u8 0]))
    (hF : F b) (hgb : g ≠ b) (hgl : g < w1.heap.size) (hb : Bd F w1) :
    Mid ((w1.setCell ⟨b, 2, none⟩ (.slice (some ⟨g, 0, none⟩) (q + 1) cap)).setCell ⟨b, 3, none⟩ (.int .i64 8)) (fun j => F j ∨ j = g) b g (q + 1) cap N 8 := by
  refine ⟨(hB.set_ 2 _).set_ 3 _, ⟨?_, fun j hj => ?_, fun j hj => ?_⟩, .inl hF, hgb⟩
  · rw [be_snoc8, List.map_append, Nat.pow_zero, Nat.mul_one]
    exact own_keep (own_keep hown fun j hj => Below.heap_setCell _ _ _ _ (by
        have : g = j := by simpa [Value.ownBlock] using hj
        subst this; exact hgb)) fun j hj => Below.heap_setCell _ _ _ _ (by
        have : g = j := by simpa [Value.ownBlock] using hj
        subst this; exact hgb)
  · have : g = j := by simpa [Value.ownBlock] using hj
    exact .inr this.symm
  · simp only [World.setCell, Array.size_modify]
    rcases hj with h | h
    · exact hb j h
    · omega

theorem grown_adv {w wr w1 : World} {F F' : Nat → Prop} {b g q cap n : Nat} {v : Value} {o : Obj} {xs : List Value} (ha : Adv F w F' wr) (hS : Sl wr F' 5 1 v n xs) (hg1 : (wr.alloc o).grownBy w1 v.ownBlock)
    (hat : (Value.slice (some ⟨g, 0, none⟩) (q + 1) cap).ownBlock = v.ownBlock ∨ (Value.slice (some ⟨g, 0, none⟩) (q + 1) cap).ownBlock = some (wr.heap.size + 1)) (hF : F' b) (u1 u2 : Value) :
    Adv F w (fun j => F' j ∨ j = g) ((w1.setCell ⟨b, 2, none⟩ u1).setCell ⟨b, 3, none⟩ u2) := by
  have hgF : ∀ j, (fun j => F' j ∨ j = g) j → F' j ∨ wr.heap.size ≤ j := by
    rintro j (h | rfl)
    · exact .inl h
    · rcases hat with h | h
      · exact .inl (hS.inF _ (by rw [← h]; rfl))
      · right; simp [Value.ownBlock] at h; omega
  have h1 : Adv F' wr F' ((w1.setCell ⟨b, 2, none⟩ u1).setCell ⟨b, 3, none⟩ u2) :=
    ((((Adv.refl F' wr).alloc o).grown hg1 (fun k hk => .inl (hS.inF k hk))).setCell (p := ⟨b, 2, none⟩) (.inl hF) _).setCell (p := ⟨b, 3, none⟩) (.inl hF) _
  exact ha.trans ⟨h1.os, h1.tape, h1.output, h1.size, h1.block, hgF⟩

theorem Mid.last {w : World} {F : Nat → Prop} {b g q cap N r : Nat} (h : Mid w F b g q cap N r) (hq : 0 < q) : w.cell? ⟨g, q - 1, none⟩ = some (.int .u8 ((N * 2 ^ r % 256 : Nat) : Int)) := by
  rw [h.sl.own.cellAt (q - 1) (by omega), List.getElem?_map, be_last' _ _ hq]; rfl

/-- what the round leaves -/
theorem Mid.step {w : World} {F : Nat → Prop} {b g q cap N r m n y k : Nat} (h : Mid w F b g q cap N r) (hq : 0 < q) (hm : 8 * q = m + r) (hr0 : 0 < r) (hr : r ≤ 8) (hk : k = min n r) (hn : 0 < n) (hy : y < 2 ^ n) (hN : N < 2 ^ m)
    (v : Int) (hv : v = (((N * 2 ^ r % 256) ||| (y / 2 ^ (n - k) % 256 * 2 ^ (r - k) % 256) : Nat) : Int)) (t : Int) (ht : t = ((r - k : Nat) : Int)) :
    WSt ((w.setCell ⟨b, 3, none⟩ (.int .i64 t)).setCell ⟨g, q - 1, none⟩ (.int .u8 v)) F b (N * 2 ^ k + y / 2 ^ (n - k)) (m + k) := by
  have hR := lay_round q N r n y k hr0 hr hq hk hy
  have hqn : qn (m + k) = q := by unfold qn; omega
  have hpad : pad (m + k) = r - k := by unfold pad; omega
  subst hv; subst ht
  refine ⟨⟨.slice (some ⟨g, 0, none⟩) q cap, ?_, ?_⟩, h.inF, ?_⟩
  · rw [hpad]
    exact ((h.blk.set_ 3 _).far (p := ⟨g, q - 1, none⟩) (fun e => h.ne e.symm) _)
  · have h1 : Sl (w.setCell ⟨b, 3, none⟩ (.int .i64 ((r - k : Nat) : Int))) F 5 1 (.slice (some ⟨g, 0, none⟩) q cap) q ((be q (N * 2 ^ r)).map u8) :=
      ⟨own_keep h.sl.own fun j hj => Below.heap_setCell _ _ _ _ (by
        have : g = j := by simpa [Value.ownBlock] using hj
        subst this; exact h.ne), h.sl.inF, fun j hj => by have := h.sl.bd j hj; simpa [World.setCell] using this⟩
    refine ⟨?_, h1.inF, fun j hj => by have := h1.bd j hj; simpa [World.setCell] using this⟩
    have h2 := (h1.own.stored (q - 1) (.int .u8 (((N * 2 ^ r % 256) ||| (y / 2 ^ (n - k) % 256 * 2 ^ (r - k) % 256) : Nat) : Int))).1
    have h3 : ((be q (N * 2 ^ r)).map u8).set (q - 1) (.int .u8 (((N * 2 ^ r % 256) ||| (y / 2 ^ (n - k) % 256 * 2 ^ (r - k) % 256) : Nat) : Int)) = (rowOf (N * 2 ^ k + y / 2 ^ (n - k)) (m + k)).map u8 := by
      rw [hR.1]
      show _ = (be (qn (m + k)) _).map u8
      rw [hqn, hpad, ← hR.2, List.map_set]
      rfl
    rw [h3] at h2
    rw [hqn]
    exact h2
  · refine put_lt N m k _ hN ?_
    rw [Nat.div_lt_iff_lt_mul (Nat.two_pow_pos _), ← Nat.pow_add, show k + (n - k) = n from by omega]
    exact hy

theorem and_mask (y j : Nat) (hy : y < 18446744073709551616) (hj : j < 64) :
    bits .and .u64 (y : Int) (IntKind.u64.wrap (IntKind.u64.wrap (2 ^ j) - 1)) = ((y % 2 ^ j : Nat) : Int) := by
  have hp : 2 ^ j < 2 ^ 64 := Nat.pow_lt_pow_right (by decide) hj
  have hp0 : 0 < 2 ^ j := Nat.two_pow_pos j
  have e1 : IntKind.u64.wrap (2 ^ j) = ((2 ^ j : Nat) : Int) := by
    rw [IntKind.wrap_u64, show ((2 : Int) ^ j) = ((2 ^ j : Nat) : Int) from by simp]
    omega
  have e2 : IntKind.u64.wrap (((2 ^ j : Nat) : Int) - 1) = ((2 ^ j - 1 : Nat) : Int) := by
    rw [IntKind.wrap_u64]
    omega
  rw [e1, e2, u64_and_nat _ _ hy (by omega), Nat.and_two_pow_sub_one_eq_mod]

theorem and_zero (y : Nat) (hy : y < 18446744073709551616) : bits .and .u64 (y : Int) 0 = 0 := by
  have := u64_and_nat y 0 hy (by decide)
  simpa using this

theorem or_u8 (u c : Nat) (hu : u < 256) (hc : c < 256) (v : Int) (hv : v = (c : Int)) : bits .or .u8 (u : Int) v = ((u ||| c : Nat) : Int) := by
  rw [hv]; exact u8_or_nat u c hu hc

theorem pow_lt64 {y k : Nat} (hy : y < 2 ^ k) (hk : k ≤ 64) : y < 18446744073709551616 :=
  Nat.lt_of_lt_of_le hy (by have := Nat.pow_le_pow_right (n := 2) (by decide) hk; simpa using this)

def LayRel (w : World) (F : Nat → Prop) (b N m x n : Nat) (t1 t2 : Value) (wr : World) : Prop :=
  ∃ y k N' m' F', t1 = .int .u64 ((y : Nat) : Int) ∧ t2 = .int .i64 ((k : Nat) : Int) ∧ k ≤ n ∧ y < 2 ^ k ∧ m' + k = m + n ∧ N' * 2 ^ k + y = N * 2 ^ n + x ∧ WSt wr F' b N' m' ∧ Adv F w F' wr ∧ Bd F' wr

/-- the end of a round -/
theorem lay_close {w X : World} {F F' : Nat → Prop} {b g q cap N N' m m' r n k x y j : Nat} (hM : Mid X F' b g q cap N' r) (hq : 0 < q) (hm : 8 * q = m' + r) (hr0 : 0 < r) (hr : r ≤ 8) (hk : k = min j r) (hj : 0 < j) (hy : y < 2 ^ j)
    (hN : N' < 2 ^ m') (hjn : j ≤ n) (hmk : m' + j = m + n) (hNk : N' * 2 ^ j + y = N * 2 ^ n + x) (ha : Adv F w F' X) (hb : Bd F' X)
    (v1 v2 v t : Int) (h1 : v1 = ((y % 2 ^ (j - k) : Nat) : Int)) (h2 : v2 = ((j - k : Nat) : Int))
    (hv : v = (((N' * 2 ^ r % 256) ||| (y / 2 ^ (j - k) % 256 * 2 ^ (r - k) % 256) : Nat) : Int)) (ht : t = ((r - k : Nat) : Int)) :
    LayRel w F b N m x n (.int .u64 v1) (.int .i64 v2) (((X.setCell ⟨b, 3, none⟩ (.int .i64 t)).setCell ⟨g, q - 1, none⟩ (.int .u8 v)).drew) := by
  have hs := hM.step hq hm hr0 hr hk hj hy hN v hv t ht
  have hkj : k ≤ j := by omega
  have hF' : F' g := hM.sl.inF g rfl
  refine ⟨y % 2 ^ (j - k), j - k, N' * 2 ^ k + y / 2 ^ (j - k), m' + k, F', by rw [h1], by rw [h2], by omega, Nat.mod_lt _ (Nat.two_pow_pos _), by omega, ?_, hs.drew, ?_, fun i hi => by have := hb i hi; simpa [World.setCell] using this⟩
  · rw [lay_rest _ _ _ _ hkj]; exact hNk
  · exact (ha.trans (((Adv.refl F' X).setCell (p := ⟨b, 3, none⟩) (.inl hM.inF) _).setCell (p := ⟨g, q - 1, none⟩) (.inl hF') _)).drew
end Go.Proofs.Ytpgeebhepegpaaa
