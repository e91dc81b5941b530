/- The writer's state, and the walk of its lay. The walk of the writer's lay. The writer's calls. Clone, Done, Open. The reader's state, and its take. -/
import Derived.Test.YtbdjlmdbnoghnaaGreatMh00
import Derived.Deep.DeepCutAuto
import Derived.Deep.QuietTactic
import Derived.BigQuiet
import Derived.Laws.AppendOwnNone
import Derived.Test.YtbdjlmdbnoghnaaGreatMh05
namespace Go.Proofs.YtbdjlmdbnoghnaaGreat
open Go.RowKit

/-- The writer at block b, with blocks F, has m bits: those of N. -/
structure WSt (w : World) (F : Nat → Prop) (b N m : Nat) : Prop where
  ex : ∃ rowv, Blk w b 174 #[.bool true, .int .i64 0, rowv, .int .i64 (pad m)] ∧ Sl w F 5 1 rowv (qn m) ((rowOf N m).map u8)
  inF : F b
  lt : N < 2 ^ m

theorem WSt.drew {w : World} {F : Nat → Prop} {b N m : Nat} (h : WSt w F b N m) : WSt w.drew F b N m :=
  ⟨let ⟨r, h1, h2⟩ := h.ex; ⟨r, h1, h2.drew⟩, h.inF, h.lt⟩

/-- The middle of lay: r bits of the last byte are free. -/
structure Mid (w : World) (F : Nat → Prop) (b g q cap N r : Nat) : Prop where
  blk : Blk w b 174 #[.bool true, .int .i64 0, .slice (some ⟨g, 0, none⟩) q cap, .int .i64 r]
  sl : Sl w F 5 1 (.slice (some ⟨g, 0, none⟩) q cap) q ((be q (N * 2 ^ r)).map u8)
  inF : F b
  ne : g ≠ b

/-- a nought byte is put behind -/
theorem Mid.grown {w1 : World} {F : Nat → Prop} {b g q cap N : Nat} {v : Value} (hB : Blk w1 b 174 #[.bool true, .int .i64 0, v, .int .i64 0]) (hown : w1.ownsRow 0 5 1 (.slice (some ⟨g, 0, none⟩) (q + 1) cap) (q + 1) ((be q N).map u8 ++ [.int .u8 0]))
    (hF : F b) (hgb : g ≠ b) (hgl : g < w1.heap.size) (hb : Bd F w1) :
    Mid ((w1.setCell ⟨b, 2, none⟩ (.slice (some ⟨g, 0, none⟩) (q + 1) cap)).setCell ⟨b, 3, none⟩ (.int .i64 8)) (fun j => F j ∨ j = g) b g (q + 1) cap N 8 := by
  refine ⟨(hB.set_ 2 _).set_ 3 _, ⟨?_, fun j hj => ?_, fun j hj => ?_⟩, .inl hF, hgb⟩
  · rw [be_snoc8, List.map_append, Nat.pow_zero, Nat.mul_one]
    exact own_keep (own_keep hown fun j hj => Below.heap_setCell _ _ _ _ (by
        have : g = j := by simpa [Value.ownBlock] using hj
        subst this; exact hgb)) fun j hj => Below.heap_setCell _ _ _ _ (by
        have : g = j := by simpa [Value.ownBlock] using hj
        subst this; exact hgb)
  · have : g = j := by simpa [Value.ownBlock] using hj
    exact .inr this.symm
  · simp only [World.setCell, Array.size_modify]
    rcases hj with h | h
    · exact hb j h
    · omega

theorem grown_adv {w wr w1 : World} {F F' : Nat → Prop} {b g q cap n : Nat} {v : Value} {o : Obj} {xs : List Value} (ha : Adv F w F' wr) (hS : Sl wr F' 5 1 v n xs) (hg1 : (wr.alloc o).grownBy w1 v.ownBlock)
    (hat : (Value.slice (some ⟨g, 0, none⟩) (q + 1) cap).ownBlock = v.ownBlock ∨ (Value.slice (some ⟨g, 0, none⟩) (q + 1) cap).ownBlock = some (wr.heap.size + 1)) (hF : F' b) (u1 u2 : Value) :
    Adv F w (fun j => F' j ∨ j = g) ((w1.setCell ⟨b, 2, none⟩ u1).setCell ⟨b, 3, none⟩ u2) := by
  have hgF : ∀ j, (fun j => F' j ∨ j = g) j → F' j ∨ wr.heap.size ≤ j := by
    rintro j (h | rfl)
    · exact .inl h
    · rcases hat with h | h
      · exact .inl (hS.inF _ (by rw [← h]; rfl))
      · right; simp [Value.ownBlock] at h; omega
  have h1 : Adv F' wr F' ((w1.setCell ⟨b, 2, none⟩ u1).setCell ⟨b, 3, none⟩ u2) :=
    ((((Adv.refl F' wr).alloc o).grown hg1 (fun k hk => .inl (hS.inF k hk))).setCell (p := ⟨b, 2, none⟩) (.inl hF) _).setCell (p := ⟨b, 3, none⟩) (.inl hF) _
  exact ha.trans ⟨h1.os, h1.tape, h1.output, h1.size, h1.block, hgF⟩

theorem Mid.last {w : World} {F : Nat → Prop} {b g q cap N r : Nat} (h : Mid w F b g q cap N r) (hq : 0 < q) : w.cell? ⟨g, q - 1, none⟩ = some (.int .u8 ((N * 2 ^ r % 256 : Nat) : Int)) := by
  rw [h.sl.own.cellAt (q - 1) (by omega), List.getElem?_map, be_last' _ _ hq]; rfl

/-- what the round leaves -/
theorem Mid.step {w : World} {F : Nat → Prop} {b g q cap N r m n y k : Nat} (h : Mid w F b g q cap N r) (hq : 0 < q) (hm : 8 * q = m + r) (hr0 : 0 < r) (hr : r ≤ 8) (hk : k = min n r) (hn : 0 < n) (hy : y < 2 ^ n) (hN : N < 2 ^ m)
    (v : Int) (hv : v = (((N * 2 ^ r % 256) ||| (y / 2 ^ (n - k) % 256 * 2 ^ (r - k) % 256) : Nat) : Int)) (t : Int) (ht : t = ((r - k : Nat) : Int)) :
    WSt ((w.setCell ⟨b, 3, none⟩ (.int .i64 t)).setCell ⟨g, q - 1, none⟩ (.int .u8 v)) F b (N * 2 ^ k + y / 2 ^ (n - k)) (m + k) := by
  have hR := lay_round q N r n y k hr0 hr hq hk hy
  have hqn : qn (m + k) = q := by unfold qn; omega
  have hpad : pad (m + k) = r - k := by unfold pad; omega
  subst hv; subst ht
  refine ⟨⟨.slice (some ⟨g, 0, none⟩) q cap, ?_, ?_⟩, h.inF, ?_⟩
  · rw [hpad]
    exact ((h.blk.set_ 3 _).far (p := ⟨g, q - 1, none⟩) (fun e => h.ne e.symm) _)
  · have h1 : Sl (w.setCell ⟨b, 3, none⟩ (.int .i64 ((r - k : Nat) : Int))) F 5 1 (.slice (some ⟨g, 0, none⟩) q cap) q ((be q (N * 2 ^ r)).map u8) :=
      ⟨own_keep h.sl.own fun j hj => Below.heap_setCell _ _ _ _ (by
        have : g = j := by simpa [Value.ownBlock] using hj
        subst this; exact h.ne), h.sl.inF, fun j hj => by have := h.sl.bd j hj; simpa [World.setCell] using this⟩
    refine ⟨?_, h1.inF, fun j hj => by have := h1.bd j hj; simpa [World.setCell] using this⟩
    have h2 := (h1.own.stored (q - 1) (.int .u8 (((N * 2 ^ r % 256) ||| (y / 2 ^ (n - k) % 256 * 2 ^ (r - k) % 256) : Nat) : Int))).1
    have h3 : ((be q (N * 2 ^ r)).map u8).set (q - 1) (.int .u8 (((N * 2 ^ r % 256) ||| (y / 2 ^ (n - k) % 256 * 2 ^ (r - k) % 256) : Nat) : Int)) = (rowOf (N * 2 ^ k + y / 2 ^ (n - k)) (m + k)).map u8 := by
      rw [hR.1]
      show _ = (be (qn (m + k)) _).map u8
      rw [hqn, hpad, ← hR.2, List.map_set]
      rfl
    rw [h3] at h2
    rw [hqn]
    exact h2
  · refine put_lt N m k _ hN ?_
    rw [Nat.div_lt_iff_lt_mul (Nat.two_pow_pos _), ← Nat.pow_add, show k + (n - k) = n from by omega]
    exact hy

theorem and_mask (y j : Nat) (hy : y < 18446744073709551616) (hj : j < 64) :
    bits .and .u64 (y : Int) (IntKind.u64.wrap (IntKind.u64.wrap (2 ^ j) - 1)) = ((y % 2 ^ j : Nat) : Int) := by
  have hp : 2 ^ j < 2 ^ 64 := Nat.pow_lt_pow_right (by decide) hj
  have hp0 : 0 < 2 ^ j := Nat.two_pow_pos j
  have e1 : IntKind.u64.wrap (2 ^ j) = ((2 ^ j : Nat) : Int) := by
    rw [IntKind.wrap_u64, show ((2 : Int) ^ j) = ((2 ^ j : Nat) : Int) from by simp]
    omega
  have e2 : IntKind.u64.wrap (((2 ^ j : Nat) : Int) - 1) = ((2 ^ j - 1 : Nat) : Int) := by
    rw [IntKind.wrap_u64]
    omega
  rw [e1, e2, u64_and_nat _ _ hy (by omega), Nat.and_two_pow_sub_one_eq_mod]

theorem and_zero (y : Nat) (hy : y < 18446744073709551616) : bits .and .u64 (y : Int) 0 = 0 := by
  have := u64_and_nat y 0 hy (by decide)
  simpa using this

theorem or_u8 (u c : Nat) (hu : u < 256) (hc : c < 256) (v : Int) (hv : v = (c : Int)) : bits .or .u8 (u : Int) v = ((u ||| c : Nat) : Int) := by
  rw [hv]; exact u8_or_nat u c hu hc

theorem pow_lt64 {y k : Nat} (hy : y < 2 ^ k) (hk : k ≤ 64) : y < 18446744073709551616 :=
  Nat.lt_of_lt_of_le hy (by have := Nat.pow_le_pow_right (n := 2) (by decide) hk; simpa using this)

def LayRel (w : World) (F : Nat → Prop) (b N m x n : Nat) (t1 t2 : Value) (wr : World) : Prop :=
  ∃ y k N' m' F', t1 = .int .u64 ((y : Nat) : Int) ∧ t2 = .int .i64 ((k : Nat) : Int) ∧ k ≤ n ∧ y < 2 ^ k ∧ m' + k = m + n ∧ N' * 2 ^ k + y = N * 2 ^ n + x ∧ WSt wr F' b N' m' ∧ Adv F w F' wr ∧ Bd F' wr

/-- the end of a round -/
theorem lay_close {w X : World} {F F' : Nat → Prop} {b g q cap N N' m m' r n k x y j : Nat} (hM : Mid X F' b g q cap N' r) (hq : 0 < q) (hm : 8 * q = m' + r) (hr0 : 0 < r) (hr : r ≤ 8) (hk : k = min j r) (hj : 0 < j) (hy : y < 2 ^ j)
    (hN : N' < 2 ^ m') (hjn : j ≤ n) (hmk : m' + j = m + n) (hNk : N' * 2 ^ j + y = N * 2 ^ n + x) (ha : Adv F w F' X) (hb : Bd F' X)
    (v1 v2 v t : Int) (h1 : v1 = ((y % 2 ^ (j - k) : Nat) : Int)) (h2 : v2 = ((j - k : Nat) : Int))
    (hv : v = (((N' * 2 ^ r % 256) ||| (y / 2 ^ (j - k) % 256 * 2 ^ (r - k) % 256) : Nat) : Int)) (ht : t = ((r - k : Nat) : Int)) :
    LayRel w F b N m x n (.int .u64 v1) (.int .i64 v2) (((X.setCell ⟨b, 3, none⟩ (.int .i64 t)).setCell ⟨g, q - 1, none⟩ (.int .u8 v)).drew) := by
  have hs := hM.step hq hm hr0 hr hk hj hy hN v hv t ht
  have hkj : k ≤ j := by omega
  have hF' : F' g := hM.sl.inF g rfl
  refine ⟨y % 2 ^ (j - k), j - k, N' * 2 ^ k + y / 2 ^ (j - k), m' + k, F', by rw [h1], by rw [h2], by omega, Nat.mod_lt _ (Nat.two_pow_pos _), by omega, ?_, hs.drew, ?_, fun i hi => by have := hb i hi; simpa [World.setCell] using this⟩
  · rw [lay_rest _ _ _ _ hkj]; exact hNk
  · exact (ha.trans (((Adv.refl F' X).setCell (p := ⟨b, 3, none⟩) (.inl hM.inF) _).setCell (p := ⟨g, q - 1, none⟩) (.inl hF') _)).drew
end Go.Proofs.YtbdjlmdbnoghnaaGreat
namespace Go.Proofs.YtbdjlmdbnoghnaaGreat
open Go.RowKit

set_option maxRecDepth 3000 in
set_option maxHeartbeats 2000000 in
theorem lay_any (b N m x n : Nat) (F : Nat → Prop) (w : World) (hw : WSt w F b N m) (hF : Bd F w) (hn : n ≤ 64) (hx : x < 2 ^ n) (hm : m + n ≤ 1000000000) :
    Calls Tryz.prog 125 #[.pointer (some ⟨b, 0, none⟩), .int .u64 x, .int .i64 n] w fun e w' => e = .returned (.tuple #[]) ∧
      ∃ F', WSt w' F' b (N * 2 ^ n + x) (m + n) ∧ Adv F w F' w' ∧ Bd F' w' := by
  go_enter Tryz.func125, Tryz.ntmps125
  go_wp2_with fail
  go_loopw [1, 2] (LayRel w F b N m x n) (fun _ t _ => (intOf t).toNat)
  case atStart => exact ⟨x, n, N, m, F, rfl, rfl, Nat.le_refl _, hx, rfl, rfl, hw, Adv.refl _ _, hF⟩
  case round =>
    obtain ⟨y, k, N', m', F', rfl, rfl, hkn, hy, hmk, hNk, hs, ha, hb⟩ := hrel
    have HM := Lib.hid hmk
    have HN := Lib.hid hNk
    clear hmk hNk
    obtain ⟨rowv, hB, hS⟩ := hs.ex
    have hq8 := qn_pad m'
    have hpl := pad_lt m'
    have hN' := hs.lt
    have hF' := hs.inF
    obtain ⟨r, hr⟩ : ∃ r, r = pad m' := ⟨_, rfl⟩
    obtain ⟨q, hq⟩ : ∃ q, q = qn m' := ⟨_, rfl⟩
    have hrow : rowOf N' m' = be q (N' * 2 ^ r) := by rw [hr, hq]; rfl
    rw [hrow] at hS
    rw [← hr] at hB hpl hq8
    rw [← hq] at hS hq8
    have HS := Lib.hid hs
    clear hrow hr hq hs
    have c3 : wr.cell? ⟨b, 3, none⟩ = some (.int .i64 r) := hB.cell 3
    have f3 := hB.frozen 3
    have c2 : wr.cell? ⟨b, 2, none⟩ = some rowv := hB.cell 2
    have f2 := hB.frozen 2
    have HQ := Lib.hid hq8
    have hqb : q ≤ 1000000000 := by have := HM.out; omega
    clear hq8
    by_cases hk0 : 0 < k
    · by_cases hp : 0 < r
      · have hq : 0 < q := by have := HQ.out; omega
        obtain ⟨g, cap, rfl, hFg, hqc⟩ := hS.form hq
        have hM : Mid wr F' b g q cap N' r := ⟨hB, hS, hF', fun e => own_blk_ne hS.own hB (by decide) (by rw [e]; rfl)⟩
        have hg := hM.last hq
        have fg := hS.own.frozenAt (q - 1)
        have hgb : g ≠ b := hM.ne
        have hbg : b ≠ g := hM.ne.symm
        have hr1 : ((r : Int) == 0) = false := by simp; omega
        obtain ⟨u, hu⟩ : ∃ u, u = N' * 2 ^ r % 256 := ⟨_, rfl⟩
        rw [← hu] at hg
        have HU := Lib.hid hu
        have HMid := Lib.hid hM
        have hy64 : y < 18446744073709551616 := Nat.lt_of_lt_of_le hy (by have := Nat.pow_le_pow_right (n := 2) (by decide) (show k ≤ 64 by omega); simpa using this)
        have hk64 : k ≤ 64 := by omega
        have HY := Lib.hid hy
        clear hu hM hB hS hy
        have hkk := and_zero y hy64
        have hu256 : u < 256 := by rw [HU.out]; exact Nat.mod_lt _ (by decide)
        rcases Nat.lt_trichotomy k r with hkr | hkr | hkr
        · go_wp2_with fail
          go_region
          go_wp2
          refine ⟨lay_close (k := k) HMid.out hq HQ.out hp (by omega) (by omega) hk0 HY.out hN' hkn HM.out HN.out ha hb _ _ _ _ ?_ ?_ ?_ ?_, ?_⟩
          · simp [Nat.mod_one]
          · simp
          · rw [← HU.out]
            exact or_u8 u _ hu256 (Nat.mod_lt _ (by decide)) _ (cast_c0 y k (r - k))
          · omega
          · simp [intOf] <;> omega
        · subst hkr
          go_wp2_with fail
          go_region
          go_wp2
          refine ⟨lay_close (k := k) HMid.out hq HQ.out hp (by omega) (by omega) hk0 HY.out hN' hkn HM.out HN.out ha hb _ _ _ _ ?_ ?_ ?_ ?_, ?_⟩
          · simp [Nat.mod_one]
          · simp
          · rw [← HU.out]
            exact or_u8 u _ hu256 (Nat.mod_lt _ (by decide)) _ (by simp)
          · omega
          · simp [intOf] <;> omega
        · have hmk := and_mask y (k - r) hy64 (by omega)
          go_wp2_with fail
          go_region
          go_wp2
          refine ⟨lay_close (k := r) HMid.out hq HQ.out hp (by omega) (by omega) hk0 HY.out hN' hkn HM.out HN.out ha hb _ _ _ _ ?_ ?_ ?_ ?_, ?_⟩
          · rfl
          · omega
          · rw [← HU.out]
            exact or_u8 u _ hu256 (Nat.mod_lt _ (by decide)) _ (by simp)
          · omega
          · simp [intOf] <;> omega
      · obtain rfl : r = 0 := by omega
        obtain ⟨a0, cap0, rfl, hqc0, _⟩ := hS.form0
        have HBl := Lib.hid hB
        have HSl := Lib.hid hS
        have hbn : (Value.slice a0 q cap0).ownBlock ≠ some b := own_blk_ne hS.own hB (by decide)
        have hown := hS.own
        have hblt := hB.lt
        have c3 : wr.cell? ⟨b, 3, none⟩ = some (.int .i64 0) := hB.cell 3
        have hy64 : y < 18446744073709551616 := pow_lt64 hy (by omega)
        have hk64 : k ≤ 64 := by omega
        have HY := Lib.hid hy
        clear hB hS hy
        obtain ⟨i0, hi, hz0, hz1, hz2⟩ := info_parts Tryz.infoU8
        go_upto_region 4 with ((first
          | (at_builtin; refine wpList_append_own_at _ rfl (.tmp 18) (.tmp 19) 53 rfl 0 5 i0 (.int .u8 0) 1 1 Tryz.underlying53 hi hz0 hz1 hz2 rfl (by decide) (.slice a0 q cap0) q _ rfl (hown.alloc _) ⟨wr.heap.size, 0, none⟩ 1 1 [.int .u8 0] rfl rfl (cell_one_new _ _ _) ?c2 ?c3 ?c4 (Nat.zero_le _) ?c5)
          | fail))
        case c2 => intro u hu; simp at hu; subst hu; rfl
        case c3 => unfold maxLen; omega
        case c4 => omega
        case c5 =>
          intro v' w1 hown1 hg1 _ hat1
          obtain ⟨g, cap, rfl, _, hgl⟩ := hown1.form (by omega)
          have hB1 : Blk w1 b 174 #[.bool true, .int .i64 0, .slice a0 q cap0, .int .i64 0] := (HBl.out.alloc _).keep (hg1.block b (by simp; omega) (fun e => hbn e.symm))
          have c2 : w1.cell? ⟨b, 2, none⟩ = some (.slice a0 q cap0) := hB1.cell 2
          have c3 : w1.cell? ⟨b, 3, none⟩ = some (.int .i64 0) := hB1.cell 3
          have f2 := hB1.frozen 2
          have f3 := hB1.frozen 3
          have hgb : g ≠ b := fun e => own_blk_ne hown1 hB1 (by decide) (by rw [e]; rfl)
          have hbg : b ≠ g := hgb.symm
          have HX := Lib.hid (Mid.grown hB1 hown1 hF' hgb hgl (by have := hg1.size; simp at this; exact fun j hj => Nat.lt_of_lt_of_le (hb j hj) (by omega)))
          have hA := grown_adv (b := b) ha HSl.out hg1 hat1 hF' (.slice (some ⟨g, 0, none⟩) (q + 1) cap) (.int .i64 8)
          clear hB1
          go_upto_region 4 with (fail)
          generalize (w1.setCell ⟨b, 2, none⟩ (.slice (some ⟨g, 0, none⟩) (q + 1) cap)).setCell ⟨b, 3, none⟩ (.int .i64 8) = X at *
          have hM := HX.out
          have hbX := hM.sl.bd
          have hg : X.cell? ⟨g, q, none⟩ = some (.int .u8 0) := by
            have h := hM.last (by omega)
            rwa [show N' * 2 ^ 8 % 256 = 0 from Nat.mul_mod_left _ _] at h
          have fg : X.frozen? ⟨g, q, none⟩ = false := hM.sl.own.frozenAt q
          have c2 : X.cell? ⟨b, 2, none⟩ = some (.slice (some ⟨g, 0, none⟩) (q + 1) cap) := hM.blk.cell 2
          have c3 : X.cell? ⟨b, 3, none⟩ = some (.int .i64 8) := hM.blk.cell 3
          have f2 := hM.blk.frozen 2
          have f3 := hM.blk.frozen 3
          have hkk := and_zero y hy64
          clear hM
          rcases Nat.lt_trichotomy k 8 with hkr | hkr | hkr
          · go_wp2_with fail
            go_region
            go_wp2
            refine ⟨lay_close (k := k) (q := q + 1) HX.out (by omega) (by have := HQ.out; omega) (by decide) (by decide) (by omega) (by omega) HY.out hN' hkn HM.out HN.out hA hbX _ _ _ _ ?_ ?_ ?_ ?_, ?_⟩
            · simp [Nat.mod_one]
            · simp
            · rw [show N' * 2 ^ 8 % 256 = 0 from Nat.mul_mod_left _ _]
              exact or_u8 0 _ (by decide) (Nat.mod_lt _ (by decide)) _ (cast_c0 y k (8 - k))
            · omega
            · simp [intOf] <;> omega
          · subst hkr
            go_wp2_with fail
            go_region
            go_wp2
            refine ⟨lay_close (k := 8) (q := q + 1) HX.out (by omega) (by have := HQ.out; omega) (by decide) (by decide) (by omega) (by omega) HY.out hN' hkn HM.out HN.out hA hbX _ _ _ _ ?_ ?_ ?_ ?_, ?_⟩
            · simp [Nat.mod_one]
            · simp
            · rw [show N' * 2 ^ 8 % 256 = 0 from Nat.mul_mod_left _ _]
              exact or_u8 0 _ (by decide) (Nat.mod_lt _ (by decide)) _ (by simp)
            · omega
            · simp [intOf] <;> omega
          · have hmk := and_mask y (k - 8) hy64 (by omega)
            go_wp2_with fail
            go_region
            go_wp2
            refine ⟨lay_close (k := 8) (q := q + 1) HX.out (by omega) (by have := HQ.out; omega) (by decide) (by decide) (by omega) (by omega) HY.out hN' hkn HM.out HN.out hA hbX _ _ _ _ ?_ ?_ ?_ ?_, ?_⟩
            · rfl
            · omega
            · rw [show N' * 2 ^ 8 % 256 = 0 from Nat.mul_mod_left _ _]
              exact or_u8 0 _ (by decide) (Nat.mod_lt _ (by decide)) _ (by simp)
            · omega
            · simp [intOf] <;> omega
    · go_wp2
      obtain rfl : k = 0 := by omega
      go_end0
      have h1 := HM.out
      have h2 := HN.out
      obtain rfl : y = 0 := by omega
      refine ⟨rfl, F', ?_, ha, hb⟩
      rw [← h2, ← h1]
      simpa using HS.out
end Go.Proofs.YtbdjlmdbnoghnaaGreat
namespace Go.Proofs.YtbdjlmdbnoghnaaGreat
open Go.RowKit

set_option maxRecDepth 3000 in
theorem isWidth_yes (n : Nat) (w : World) (h : n ≤ 64) : Calls Tryz.prog 120 #[.int .i64 n] w fun e w' => e = .returned (.bool true) ∧ w = w' := by
  have h0 : (0 : Int) ≤ n := by omega
  have h1 : (n : Int) ≤ 64 := by omega
  go_enter Tryz.func120, Tryz.ntmps120
  go_wp2
  go_ret
  exact ⟨rfl, rfl⟩

set_option maxRecDepth 3000 in
theorem isWidth_no (n : Int) (w : World) (h : n < 0 ∨ 64 < n) : Calls Tryz.prog 120 #[.int .i64 n] w fun e w' => e = .returned (.bool false) ∧ w = w' := by
  rcases h with h | h
  · have h0 : decide ((0 : Int) ≤ n) = false := by simp; omega
    go_enter Tryz.func120, Tryz.ntmps120
    go_wp2
    go_ret
    exact ⟨rfl, rfl⟩
  · have h0 : (0 : Int) ≤ n := by omega
    have h1 : decide (n ≤ (64 : Int)) = false := by simp; omega
    go_enter Tryz.func120, Tryz.ntmps120
    go_wp2
    go_ret
    exact ⟨rfl, rfl⟩

/-- The writer at block b has an error. -/
structure WErr (w : World) (F : Nat → Prop) (b : Nat) : Prop where
  ex : ∃ v r, Blk w b 174 #[.bool true, .int .i64 2, v, r]
  inF : F b
  bd : Bd F w

set_option maxRecDepth 3000 in
theorem fail_any (b : Nat) (F : Nat → Prop) (v r : Value) (w : World) (hB : Blk w b 174 #[.bool true, .int .i64 0, v, r]) (hF : F b) (hb : Bd F w) :
    Calls Tryz.prog 124 #[.pointer (some ⟨b, 0, none⟩)] w fun e w' => e = .returned (.pointer (some ⟨b, 0, none⟩)) ∧ WErr w' F b ∧ Adv F w F w' := by
  have c1 : w.cell? ⟨b, 1, none⟩ = some (.int .i64 0) := hB.cell 1
  have c2 : w.cell? ⟨b, 2, none⟩ = some v := hB.cell 2
  have c3 : w.cell? ⟨b, 3, none⟩ = some r := hB.cell 3
  have f1 := hB.frozen 1
  have f2 := hB.frozen 2
  have f3 := hB.frozen 3
  have H := Lib.hid hB
  clear hB
  go_enter Tryz.func124, Tryz.ntmps124
  go_wp2
  go_ret
  refine ⟨rfl, ⟨⟨_, _, (((H.out.set_ 1 _).set_ 2 _).set_ 3 _)⟩, hF, fun j hj => by have := hb j hj; simpa [World.setCell] using this⟩, ?_⟩
  exact (((Adv.refl F w).setCell (p := ⟨b, 1, none⟩) (.inl hF) _).setCell (p := ⟨b, 2, none⟩) (.inl hF) _).setCell (p := ⟨b, 3, none⟩) (.inl hF) _

theorem shr_no {x n : Nat} (h : x < 2 ^ n) : ((x : Int) / 2 ^ n != 0) = false := by
  have e : (x : Int) / 2 ^ n = ((x / 2 ^ n : Nat) : Int) := by rw [Int.natCast_ediv, Int.natCast_pow]; rfl
  rw [e, Nat.div_eq_of_lt h]; rfl
theorem shr_yes {x n : Nat} (h : 2 ^ n ≤ x) : ((x : Int) / 2 ^ n != 0) = true := by
  have e : (x : Int) / 2 ^ n = ((x / 2 ^ n : Nat) : Int) := by rw [Int.natCast_ediv, Int.natCast_pow]; rfl
  have : 0 < x / 2 ^ n := Nat.div_pos h (Nat.two_pow_pos n)
  rw [e, bne_iff_ne]; omega

set_option maxRecDepth 3000 in
set_option maxHeartbeats 400000 in
theorem put_ok (b N m x n : Nat) (F : Nat → Prop) (w : World) (hw : WSt w F b N m) (hF : Bd F w) (hn : n ≤ 64) (hx : x < 2 ^ n) (hm : m + n ≤ 1000000000) :
    Calls Tryz.prog 103 #[.pointer (some ⟨b, 0, none⟩), .int .u64 x, .int .i64 n] w fun e w' => e = .returned (.pointer (some ⟨b, 0, none⟩)) ∧
      ∃ F', WSt w' F' b (N * 2 ^ n + x) (m + n) ∧ Adv F w F' w' ∧ Bd F' w' := by
  obtain ⟨v, hB, hS⟩ := hw.ex
  have c0 : w.cell? ⟨b, 0, none⟩ = some (.bool true) := hB.cell 0
  have c1 : w.cell? ⟨b, 1, none⟩ = some (.int .i64 0) := hB.cell 1
  have hd := shr_no hx
  have HW := Lib.hid hw
  have HX := Lib.hid hx
  have hx64 := pow_lt64 hx hn
  clear hB hS hw hx
  go_enter Tryz.func103, Tryz.ntmps103
  go_wp2_with (first
    | (go_at_call 120; refine (isWidth_yes n _ hn).mono ?_; rintro e w' ⟨rfl, rfl⟩)
    | (go_at_call 125; refine (lay_any b N m x n F _ HW.out hF hn HX.out hm).mono ?_; rintro e w1 ⟨rfl, hpost⟩))
  go_ret
  exact ⟨rfl, hpost⟩

set_option maxRecDepth 3000 in
/-- A number that does not fit. -/
theorem put_bad (b N m x : Nat) (n : Int) (F : Nat → Prop) (w : World) (hw : WSt w F b N m) (hF : Bd F w) (_hx : x < 18446744073709551616) (hbad : n < 0 ∨ 64 < n ∨ ∃ k : Nat, n = k ∧ k ≤ 64 ∧ 2 ^ k ≤ x) :
    Calls Tryz.prog 103 #[.pointer (some ⟨b, 0, none⟩), .int .u64 x, .int .i64 n] w fun e w' => e = .returned (.pointer (some ⟨b, 0, none⟩)) ∧ WErr w' F b ∧ Adv F w F w' := by
  obtain ⟨v, hB, hS⟩ := hw.ex
  have c0 : w.cell? ⟨b, 0, none⟩ = some (.bool true) := hB.cell 0
  have c1 : w.cell? ⟨b, 1, none⟩ = some (.int .i64 0) := hB.cell 1
  have hFb := hw.inF
  have HB := Lib.hid hB
  clear hB hS hw
  by_cases hn : n < 0 ∨ 64 < n
  · clear hbad
    go_enter Tryz.func103, Tryz.ntmps103
    go_wp2_with (first
      | (go_at_call 120; refine (isWidth_no n _ hn).mono ?_; rintro e w' ⟨rfl, rfl⟩)
      | (go_at_call 124; refine (fail_any b F _ _ _ HB.out hFb hF).mono ?_; rintro e w1 ⟨rfl, hpost⟩))
    go_ret
    exact ⟨rfl, hpost⟩
  · obtain ⟨k, rfl, hk, hkx⟩ : ∃ k : Nat, n = k ∧ k ≤ 64 ∧ 2 ^ k ≤ x := by
      rcases hbad with h | h | h
      · exact absurd (.inl h) hn
      · exact absurd (.inr h) hn
      · exact h
    have hd := shr_yes hkx
    clear hbad hn hkx
    go_enter Tryz.func103, Tryz.ntmps103
    go_wp2_with (first
      | (go_at_call 120; refine (isWidth_yes k _ hk).mono ?_; rintro e w' ⟨rfl, rfl⟩)
      | (go_at_call 124; refine (fail_any b F _ _ _ HB.out hFb hF).mono ?_; rintro e w1 ⟨rfl, hpost⟩))
    go_ret
    exact ⟨rfl, hpost⟩

set_option maxRecDepth 3000 in
/-- A writer that has an error already. -/
theorem put_err (b : Nat) (x n : Int) (F : Nat → Prop) (w : World) (hw : WErr w F b) :
    Calls Tryz.prog 103 #[.pointer (some ⟨b, 0, none⟩), .int .u64 x, .int .i64 n] w fun e w' => e = .returned (.pointer (some ⟨b, 0, none⟩)) ∧ w = w' := by
  obtain ⟨v, r, hB⟩ := hw.ex
  have c0 : w.cell? ⟨b, 0, none⟩ = some (.bool true) := hB.cell 0
  have c1 : w.cell? ⟨b, 1, none⟩ = some (.int .i64 2) := hB.cell 1
  clear hB hw
  go_enter Tryz.func103, Tryz.ntmps103
  go_wp2
  go_ret
  exact ⟨rfl, rfl⟩

set_option maxRecDepth 3000 in
theorem new_any (w : World) : Calls Tryz.prog 102 #[] w fun e w' => ∃ b F, e = .returned (.pointer (some ⟨b, 0, none⟩)) ∧ WSt w' F b 0 0 ∧ Adv Nul w F w' ∧ Bd F w' := by
  go_enter Tryz.func102, Tryz.ntmps102
  go_wp2
  go_ret
  refine ⟨w.heap.size, (· = w.heap.size), rfl, ⟨⟨.slice none 0 0, Blk.new _ _ _, ?_⟩, rfl, by decide⟩, ?_, ?_⟩
  · refine Sl.nilF _ _ (fun k hk => ?_) _ _
    simp [hk]
  · exact Adv.new_ ((Below.refl _ _).alloc (Nat.le_refl _) _) (fun k hk => by simp [hk])
  · intro k hk
    simp [hk]
end Go.Proofs.YtbdjlmdbnoghnaaGreat
namespace Go.Proofs.YtbdjlmdbnoghnaaGreat
open Go.RowKit

set_option maxRecDepth 3000 in
theorem clone_any (v : Value) (n : Nat) (xs : List Value) (w : World) (hv : Rd w 1 v n xs) (h1 : ∀ u ∈ xs, u.oneCell' = true) (hl : n ≤ 1000000000) :
    Calls Tryz.prog 118 #[v] w fun e w' => ∃ v' F', e = .returned v' ∧ Sl w' F' 5 1 v' n xs ∧ Adv Nul w F' w' := by
  obtain ⟨A, c, rfl, hnc, hcm, hxl, hA, hr⟩ := hv
  obtain ⟨i0, hi, hz0, hz1, hz2⟩ := info_parts Tryz.infoU8
  rcases A with _ | a
  · obtain rfl : c = 0 := hA rfl
    obtain rfl : n = 0 := by omega
    obtain rfl : xs = [] := List.eq_nil_of_length_eq_zero (by simpa using hxl)
    have he := fun wx => Lib.run_eql_slice_nil (P := Tryz.prog) wx 53 5 none 0 0 0 0 Tryz.underlying53
    clear hnc hcm hxl hA hr h1
    go_enter Tryz.func118, Tryz.ntmps118
    go_wp2
    go_ret
    exact ⟨_, _, rfl, Sl.nil _ _ _, Adv.refl _ _⟩
  · have he := fun wx => Lib.run_eql_slice_nil (P := Tryz.prog) wx 53 5 (some a) n c 0 0 Tryz.underlying53
    have hcells : ∀ j u, xs[j]? = some u → (w.alloc (.cells #[] 5)).cell? (a.add j) = some u := by
      intro j u hu
      have hj : j < xs.length := (List.getElem?_eq_some_iff.1 hu).1
      obtain ⟨ad, e, hb, hc⟩ := hr (by omega)
      injection e with e
      subst e
      rw [World.cell?_of_block (w := w) (by rw [add_block]; exact Below.heap_alloc _ _ _ hb)]
      exact hc j u hu
    have hown : (w.alloc (.cells #[] 5)).ownsRow w.heap.size 5 1 (.slice (some ⟨w.heap.size, 0, none⟩) 0 0) 0 [] := World.ownsRow_made w #[] 0 (Nat.le_refl _) (Nat.zero_le _) rfl
    have HR := Lib.hid hr
    have HC := Lib.hid hcells
    have HL := Lib.hid hxl
    clear hr hcells hA hxl hnc hcm
    go_enter Tryz.func118, Tryz.ntmps118
    go_wp2_with (first
      | (at_builtin; refine wpList_append_own_at _ rfl (.tmp 5) (.tmp 6) 53 rfl w.heap.size 5 i0 (.int .u8 0) 1 1 Tryz.underlying53 hi hz0 hz1 hz2 rfl (by decide) (.slice (some ⟨w.heap.size, 0, none⟩) 0 0) 0 [] rfl hown a n c xs rfl HL.out HC.out h1 ?c3 ?c4 (by simp) ?c5)
      | fail)
    case c3 => unfold maxLen; omega
    case c4 => omega
    case c5 =>
      intro v' w1 hown1 hg1 _ hat1
      go_wp2
      go_ret
      have hb : Below w.heap.size w w1 := ((Below.refl w.heap.size w).alloc (Nat.le_refl _) _).grown hg1 (by simp) (fun k hk => by simp [Value.ownBlock] at hk; omega)
      have hlt := hown1.lt
      exact ⟨v', (fun k => v'.ownBlock = some k), rfl, ⟨own_base hown1, fun k hk => hk, fun k hk => (hlt k hk).2⟩, Adv.new_ hb (fun k hk => (hlt k hk).1)⟩

set_option maxRecDepth 3000 in
theorem done_ok (b N m : Nat) (F : Nat → Prop) (w : World) (hw : WSt w F b N m) (hm : m ≤ 1000000000) :
    Calls Tryz.prog 104 #[.pointer (some ⟨b, 0, none⟩)] w fun e w' => ∃ v F', e = .returned (.tuple #[v, .int .i64 0]) ∧ Sl w' F' 5 1 v (qn m) ((rowOf N m).map u8) ∧ Adv Nul w F' w' := by
  obtain ⟨v, hB, hS⟩ := hw.ex
  have c0 : w.cell? ⟨b, 0, none⟩ = some (.bool true) := hB.cell 0
  have c1 : w.cell? ⟨b, 1, none⟩ = some (.int .i64 0) := hB.cell 1
  have c2 : w.cell? ⟨b, 2, none⟩ = some v := hB.cell 2
  have HS := Lib.hid hS
  have hq : qn m ≤ 1000000000 := by unfold qn; omega
  clear hB hS hw
  go_enter Tryz.func104, Tryz.ntmps104
  go_wp2_with (first
    | (go_at_call 118; refine (clone_any v _ _ _ HS.out.rd (u8_one _) hq).mono ?_; rintro e w1 ⟨v1, F1, rfl, hpost⟩))
  go_ret2
  exact ⟨_, _, rfl, hpost⟩

set_option maxRecDepth 3000 in
theorem done_err (b : Nat) (F : Nat → Prop) (w : World) (hw : WErr w F b) :
    Calls Tryz.prog 104 #[.pointer (some ⟨b, 0, none⟩)] w fun e w' => e = .returned (.tuple #[.slice none 0 0, .int .i64 2]) ∧ Adv Nul w Nul w' := by
  obtain ⟨v, r, hB⟩ := hw.ex
  have c0 : w.cell? ⟨b, 0, none⟩ = some (.bool true) := hB.cell 0
  have c1 : w.cell? ⟨b, 1, none⟩ = some (.int .i64 2) := hB.cell 1
  clear hB hw
  go_enter Tryz.func104, Tryz.ntmps104
  go_wp2
  go_quiet (fail)
  go_wp2
  go_ret2
  exact ⟨rfl, (Adv.refl _ _).drewN _⟩
end Go.Proofs.YtbdjlmdbnoghnaaGreat
namespace Go.Proofs.YtbdjlmdbnoghnaaGreat
open Go.RowKit

/-- The reader at block b has q bytes, the digits of V; the first a bits of them were read. -/
structure RSt (w : World) (F : Nat → Prop) (b q V a : Nat) : Prop where
  ex : ∃ rowv, Blk w b 171 #[.bool true, .int .i64 0, rowv, .int .i64 (a : Nat)] ∧ Sl w F 5 1 rowv q ((be q V).map u8)
  inF : F b
  le : a ≤ 8 * q
  sm : q ≤ 1000000000

/-- The reader at block b has the error e. -/
structure RErr (w : World) (F : Nat → Prop) (b : Nat) (e : Int) : Prop where
  ex : ∃ v r, Blk w b 171 #[.bool true, .int .i64 e, v, r]
  ne : (e != 0) = true
  inF : F b
  bd : Bd F w

set_option maxRecDepth 3000 in
theorem open_any (v : Value) (q V : Nat) (w : World) (hv : Rd w 1 v q ((be q V).map u8)) (hl : q ≤ 1000000000) :
    Calls Tryz.prog 95 #[v] w fun e w' => ∃ b F, e = .returned (.pointer (some ⟨b, 0, none⟩)) ∧ RSt w' F b q V 0 ∧ Adv Nul w F w' ∧ Bd F w' := by
  have H := Lib.hid hv
  clear hv
  go_enter Tryz.func95, Tryz.ntmps95
  go_wp2_with (first
    | (go_at_call 118; refine (clone_any v _ _ _ H.out (u8_one _) hl).mono ?_; rintro e w1 ⟨v1, F1, rfl, hs1, ha1⟩; obtain ⟨a1, c1, rfl, _, _⟩ := hs1.form0))
  go_ret
  refine ⟨w1.heap.size, fun k => F1 k ∨ k = w1.heap.size, rfl, ⟨⟨_, Blk.new _ _ _, ?_⟩, .inr rfl, by omega, hl⟩, ?_, ?_⟩
  · exact ⟨own_keep hs1.own (fun k hk => Below.heap_alloc _ _ _ (hs1.bd k (hs1.inF k hk))), fun k hk => .inl (hs1.inF k hk), fun k hk => by
      rcases hk with h | h
      · have := hs1.bd k h; simp; omega
      · simp [h]⟩
  · have h1 := ha1.alloc (.cells #[.bool true, .int .i64 0, .slice a1 q c1, .int .i64 0] 171)
    refine ⟨h1.os, h1.tape, h1.output, h1.size, h1.block, fun k hk => ?_⟩
    rcases hk with h | h
    · exact h1.into k h
    · right; rw [h]; exact ha1.size
  · intro k hk
    rcases hk with h | h
    · have := hs1.bd k h; simp; omega
    · simp [h]

def TakeRel (w : World) (F : Nat → Prop) (b q V a n : Nat) (t5 t1 : Value) (wr : World) : Prop :=
  ∃ c k, t1 = .int .i64 ((k : Nat) : Int) ∧ t5 = .int .u64 ((bitsAt q V a c : Nat) : Int) ∧ c + k = n ∧ RSt wr F b q V (a + c) ∧ Adv (· = b) w (· = b) wr ∧ Bd F wr

theorem take_val (X u k s q V a c p : Nat) (hX : X = bitsAt q V a c) (hu : u = V / 256 ^ (q - 1 - p / 8) % 256) (hp : p = a + c) (hs : s = 8 - p % 8 - k) (hk : k ≤ 8 - p % 8) (hc : c + k ≤ 64) (hpq : p + k ≤ 8 * q) (hp8 : p / 8 < q)
    (v : Int) (hv : v = ((u / 2 ^ s : Nat) : Int)) :
    bits .or .u64 (IntKind.u64.wrap ((X : Int) * 2 ^ k)) (bits .and .u64 v (IntKind.u64.wrap (IntKind.u64.wrap (2 ^ k) - 1))) = ((bitsAt q V a (c + k) : Nat) : Int) := by
  have hu256 : u < 256 := by rw [hu]; exact Nat.mod_lt _ (by decide)
  have hv256 : u / 2 ^ s ≤ u := Nat.div_le_self _ _
  have e2 : IntKind.u64.wrap ((X : Int) * 2 ^ k) = ((X * 2 ^ k % 18446744073709551616 : Nat) : Int) := by
    rw [IntKind.wrap_u64, Int.natCast_emod, Int.natCast_mul, Int.natCast_pow]; rfl
  rw [hv, e2, and_mask _ k (by omega) (by omega), u64_or_nat _ _ (Nat.mod_lt _ (by decide)) (Nat.lt_of_le_of_lt (Nat.mod_le _ _) (by omega))]
  have h1 : u / 2 ^ s % 2 ^ k = bitsAt q V p k := by rw [hu, hs]; exact bitsAt_byte q V p k hk hp8
  rw [h1, or_sum X _ c k (by rw [hX]; exact bitsAt_lt _ _ _ _) (bitsAt_lt _ _ _ _) hc, bitsAt_split q V a c k (by omega), hX, hp]

theorem wrap_div (u s : Nat) (hu : u < 256) : IntKind.u64.wrap ((u : Int) / 2 ^ s) = ((u / 2 ^ s : Nat) : Int) := by
  have h : u / 2 ^ s ≤ u := Nat.div_le_self _ _
  have e : (u : Int) / 2 ^ s = ((u / 2 ^ s : Nat) : Int) := by rw [Int.natCast_ediv, Int.natCast_pow]; rfl
  rw [e, IntKind.wrap_u64]
  have h2 : ((u / 2 ^ s : Nat) : Int) ≤ u := by exact_mod_cast h
  have h3 : (0 : Int) ≤ ((u / 2 ^ s : Nat) : Int) := Int.natCast_nonneg _
  exact Int.emod_eq_of_lt h3 (by omega)

theorem take_close {w wr : World} {F : Nat → Prop} {b q V a n c k kk p j : Nat} {v : Value} (hB : Blk wr b 171 #[.bool true, .int .i64 0, v, .int .i64 (p : Nat)]) (hS : Sl wr F 5 1 v q ((be q V).map u8)) (hFb : F b) (hq : q ≤ 1000000000)
    (hp : p = a + c) (hck : c + k = n) (hkk : kk ≤ k) (hpk : p + k ≤ 8 * q) (ha : Adv (· = b) w (· = b) wr) (x t m : Int) (hx : x = ((bitsAt q V a (c + kk) : Nat) : Int)) (ht : t = ((p + kk : Nat) : Int)) (hm : m = ((k - kk : Nat) : Int)) :
    TakeRel w F b q V a n (.int .u64 x) (.int .i64 m) ((wr.drewN j).setCell ⟨b, 3, none⟩ (.int .i64 t)) := by
  subst hx; subst ht; subst hm
  have hne : v.ownBlock ≠ some b := own_blk_ne hS.own hB (by decide)
  refine ⟨c + kk, k - kk, rfl, rfl, by omega, ⟨⟨v, ?_, ?_⟩, hFb, by omega, hq⟩, (ha.drewN j).setCell (p := ⟨b, 3, none⟩) (.inl rfl) _, fun i hi => by have := hS.bd i hi; simpa [World.setCell] using this⟩
  · have h := (show Blk (wr.drewN j) b 171 _ from hB).set_ 3 (.int .i64 ((p + kk : Nat) : Int))
    rw [show a + (c + kk) = p + kk from by omega]
    exact h
  · refine ⟨own_keep hS.own (fun i hi => ?_), hS.inF, fun i hi => by have := hS.bd i hi; simpa [World.setCell] using this⟩
    exact Below.heap_setCell (wr.drewN j) _ _ _ (fun e => hne (by rw [hi, e]))

set_option maxRecDepth 3000 in
set_option maxHeartbeats 1000000 in
theorem take_any (b q V a n : Nat) (F : Nat → Prop) (w : World) (hw : RSt w F b q V a) (hF : Bd F w) (hn : n ≤ 64) (hx : a + n ≤ 8 * q) :
    Calls Tryz.prog 123 #[.pointer (some ⟨b, 0, none⟩), .int .i64 n] w fun e w' => e = .returned (.int .u64 ((bitsAt q V a n : Nat) : Int)) ∧ RSt w' F b q V (a + n) ∧ Adv (· = b) w (· = b) w' ∧ Bd F w' := by
  have hq := hw.sm
  have H0 := Lib.hid hw
  clear hw
  go_enter Tryz.func123, Tryz.ntmps123
  go_wp2_with fail
  go_loopw [5, 1] (TakeRel w F b q V a n) (fun _ t _ => (intOf t).toNat)
  case atStart => exact ⟨0, n, rfl, by rw [bitsAt_zero]; rfl, by omega, H0.out, Adv.refl _ _, hF⟩
  case round =>
    obtain ⟨c, k, rfl, rfl, hck, hR, ha, hb⟩ := hrel
    obtain ⟨rowv, hB, hS⟩ := hR.ex
    have hFb := hR.inF
    by_cases hk0 : 0 < k
    · have hq0 : 0 < q := by omega
      obtain ⟨g, cap, rfl, hFg, hqc⟩ := hS.form hq0
      obtain ⟨p, hp⟩ : ∃ p, p = a + c := ⟨_, rfl⟩
      rw [← hp] at hB
      have c2 : wr.cell? ⟨b, 2, none⟩ = some (.slice (some ⟨g, 0, none⟩) q cap) := hB.cell 2
      have c3 : wr.cell? ⟨b, 3, none⟩ = some (.int .i64 p) := hB.cell 3
      have f3 := hB.frozen 3
      have hpq : p + k ≤ 8 * q := by omega
      have hp8 : p / 8 < q := by omega
      obtain ⟨u, hu⟩ : ∃ u, u = V / 256 ^ (q - 1 - p / 8) % 256 := ⟨_, rfl⟩
      have hg : wr.cell? ⟨g, p / 8, none⟩ = some (.int .u8 u) := by
        rw [hS.own.cellAt (p / 8) (by omega), List.getElem?_map, be_get _ _ _ hp8, ← hu]; rfl
      have hu256 : u < 256 := by rw [hu]; exact Nat.mod_lt _ (by decide)
      obtain ⟨X, hX⟩ : ∃ X, X = bitsAt q V a c := ⟨_, rfl⟩
      have hXlt : X < 18446744073709551616 := by rw [hX]; exact pow_lt64 (bitsAt_lt _ _ _ _) (by omega)
      rw [← hX]
      have HX := Lib.hid hX
      have HU := Lib.hid hu
      have HP := Lib.hid hp
      have HB := Lib.hid hB
      have HS := Lib.hid hS
      have HC := Lib.hid hck
      have hk64 : k ≤ 64 := by omega
      obtain ⟨r, hr⟩ : ∃ r, r = p % 8 := ⟨_, rfl⟩
      have hr8 : r < 8 := by omega
      have hrem : ((p : Int) % 8) = (r : Int) := by omega
      clear hX hu hp hB hS hR hck hr
      rcases Nat.lt_trichotomy k (8 - r) with hkr | hkr | hkr
      · go_wp2_with fail
        go_quiet (fail)
        go_wp2_with fail
        go_quiet (fail)
        go_wp2
        refine ⟨take_close (kk := k) HB.out HS.out hFb hq HP.out HC.out (by omega) hpq ha _ _ _ (take_val X u k (8 - r - k) q V a c p HX.out HU.out HP.out (by omega) (by omega) (by have := HC.out; omega) (by omega) hp8 _ ?_) ?_ ?_, ?_⟩
        · exact wrap_div u _ hu256
        · omega
        · omega
        · simp [intOf] <;> omega
      · subst hkr
        go_wp2_with fail
        go_quiet (fail)
        go_wp2_with fail
        go_quiet (fail)
        go_wp2
        refine ⟨take_close (kk := 8 - r) HB.out HS.out hFb hq HP.out HC.out (by omega) hpq ha _ _ _ (take_val X u (8 - r) 0 q V a c p HX.out HU.out HP.out (by omega) (by omega) (by have := HC.out; omega) (by omega) hp8 _ ?_) ?_ ?_, ?_⟩
        · simp
        · omega
        · omega
        · simp [intOf] <;> omega
      · go_wp2_with fail
        go_quiet (fail)
        go_wp2_with fail
        go_quiet (fail)
        go_wp2
        refine ⟨take_close (kk := 8 - r) HB.out HS.out hFb hq HP.out HC.out (by omega) hpq ha _ _ _ (take_val X u (8 - r) 0 q V a c p HX.out HU.out HP.out (by omega) (by omega) (by have := HC.out; omega) (by omega) hp8 _ ?_) ?_ ?_, ?_⟩
        · simp
        · omega
        · omega
        · simp [intOf] <;> omega
    · obtain rfl : k = 0 := by omega
      have h : c = n := by omega
      subst h
      go_wp2
      go_ret
      exact ⟨rfl, hR, ha, hb⟩
end Go.Proofs.YtbdjlmdbnoghnaaGreat
