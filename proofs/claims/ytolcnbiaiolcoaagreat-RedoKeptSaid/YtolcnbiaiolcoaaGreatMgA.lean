/- Plain arithmetic for the reader. The writer's state, and the walk of its lay. The walk of the writer's lay. -/
import Derived.Test.YtolcnbiaiolcoaaGreatMath
import Derived.Test.YtolcnbiaiolcoaaGreatBase
import Derived.Deep.DeepCutAuto
namespace Go.Proofs.YtolcnbiaiolcoaaGreat

theorem be_get : ∀ q V i, i < q → (be q V)[i]? = some (V / 256 ^ (q - 1 - i) % 256)
  | 0, _, _, h => absurd h (by omega)
  | q + 1, V, i, h => by
    simp only [be]
    rcases Nat.lt_or_ge i q with hi | hi
    · rw [List.getElem?_append_left (by rw [be_length]; exact hi), be_get q _ i hi]
      congr 2
      rw [Nat.div_div_eq_div_mul, Nat.mul_comm, ← Nat.pow_succ]
      congr 2
      omega
    · rw [List.getElem?_append_right (by rw [be_length]; exact hi), be_length]
      obtain rfl : i = q := by omega
      simp

/-- n bits of the 8q bits of V, from the bit at on -/
def bitsAt (q V at' n : Nat) : Nat := V / 2 ^ (8 * q - at' - n) % 2 ^ n

theorem bitsAt_lt (q V a n : Nat) : bitsAt q V a n < 2 ^ n := Nat.mod_lt _ (Nat.two_pow_pos _)
theorem bitsAt_zero (q V a : Nat) : bitsAt q V a 0 = 0 := by simp [bitsAt, Nat.mod_one]

theorem div_mod_split (W c k : Nat) : W % 2 ^ (c + k) = (W / 2 ^ k % 2 ^ c) * 2 ^ k + W % 2 ^ k := by
  rw [Nat.add_comm c k, Nat.pow_add, Nat.mod_mul, Nat.add_comm, Nat.mul_comm]

theorem bitsAt_split (q V a c k : Nat) (h : a + c + k ≤ 8 * q) : bitsAt q V a (c + k) = bitsAt q V a c * 2 ^ k + bitsAt q V (a + c) k := by
  unfold bitsAt
  rw [div_mod_split, Nat.div_div_eq_div_mul, ← Nat.pow_add, show 8 * q - a - (c + k) + k = 8 * q - a - c from by omega, show 8 * q - (a + c) - k = 8 * q - a - (c + k) from by omega]

theorem bitsAt_byte (q V a k : Nat) (hk : k ≤ 8 - a % 8) (h : a / 8 < q) : V / 256 ^ (q - 1 - a / 8) % 256 / 2 ^ (8 - a % 8 - k) % 2 ^ k = bitsAt q V a k := by
  have e256 : ∀ j, (256 : Nat) ^ j = 2 ^ (8 * j) := fun j => by rw [Nat.pow_mul]
  unfold bitsAt
  rw [e256, show (256 : Nat) = 2 ^ (8 - a % 8 - k) * 2 ^ (a % 8 + k) from by rw [← Nat.pow_add, show 8 - a % 8 - k + (a % 8 + k) = 8 from by omega]]
  rw [Nat.mod_mul_right_div_self, Nat.div_div_eq_div_mul, ← Nat.pow_add, Nat.pow_add 2 (a % 8) k, Nat.mod_mul_left_mod]
  congr 3
  omega

theorem or_sum (X p c k : Nat) (hX : X < 2 ^ c) (hp : p < 2 ^ k) (h : c + k ≤ 64) : (X * 2 ^ k % 18446744073709551616) ||| p = X * 2 ^ k + p := by
  have h1 : X * 2 ^ k < 2 ^ (c + k) := by rw [Nat.pow_add]; exact Nat.mul_lt_mul_of_pos_right hX (Nat.two_pow_pos _)
  have h2 : (2 : Nat) ^ (c + k) ≤ 2 ^ 64 := Nat.pow_le_pow_right (by decide) h
  rw [Nat.mod_eq_of_lt (by omega), Nat.mul_comm X, ← Nat.two_pow_add_eq_or_of_lt hp]
end Go.Proofs.YtolcnbiaiolcoaaGreat
namespace Go.Proofs.YtolcnbiaiolcoaaGreat
open Go.RowKit

/-- The writer at block b, with blocks F, has m bits: those of N. -/
structure WSt (w : World) (F : Nat → Prop) (b N m : Nat) : Prop where
  ex : ∃ rowv, Blk w b 178 #[.bool true, .int .i64 0, rowv, .int .i64 (pad m)] ∧ Sl w F 5 1 rowv (qn m) ((rowOf N m).map u8)
  inF : F b
  lt : N < 2 ^ m

theorem WSt.drew {w : World} {F : Nat → Prop} {b N m : Nat} (h : WSt w F b N m) : WSt w.drew F b N m :=
  ⟨let ⟨r, h1, h2⟩ := h.ex; ⟨r, h1, h2.drew⟩, h.inF, h.lt⟩

/-- The middle of lay: r bits of the last byte are free. -/
structure Mid (w : World) (F : Nat → Prop) (b g q cap N r : Nat) : Prop where
  blk : Blk w b 178 #[.bool true, .int .i64 0, .slice (some ⟨g, 0, none⟩) q cap, .int .i64 r]
  sl : Sl w F 5 1 (.slice (some ⟨g, 0, none⟩) q cap) q ((be q (N * 2 ^ r)).map u8)
  inF : F b
  ne : g ≠ b

/-- a nought byte is put behind -/
theorem Mid.grown {w1 : World} {F : Nat → Prop} {b g q cap N : Nat} {v : Value} (hB : Blk w1 b 178 #[.bool true, .int .i64 0, v, .int .i64 0]) (hown : w1.ownsRow 0 5 1 (.slice (some ⟨g, 0, none⟩) (q + 1) cap) (q + 1) ((be q N).map u8 ++ [.int .u8 0]))
    (hF : F b) (hgb : g ≠ b) (hgl : g < w1.heap.size) (hb : Bd F w1) :
    Mid ((w1.setCell ⟨b, 2, none⟩ (.slice (some ⟨g, 0, none⟩) (q + 1) cap)).setCell ⟨b, 3, none⟩ (.int .i64 8)) (fun j => F j ∨ j = g) b g (q + 1) cap N 8 := by
  refine ⟨(hB.set_ 2 _).set_ 3 _, ⟨?_, fun j hj => ?_, fun j hj => ?_⟩, .inl hF, hgb⟩
  · rw [be_snoc8, List.map_append, Nat.pow_zero, Nat.mul_one]
    exact own_keep (own_keep hown fun j hj => Below.heap_setCell _ _ _ _ (by
        have : g = j := by simpa [Value.ownBlock] using hj
        subst this; exact hgb)) fun j hj => Below.heap_setCell _ _ _ _ (by
        have : g = j := by simpa [Value.ownBlock] using hj
        subst this; exact hgb)
  · have : g = j := by simpa [Value.ownBlock] using hj
    exact .inr this.symm
  · simp only [World.setCell, Array.size_modify]
    rcases hj with h | h
    · exact hb j h
    · omega

theorem grown_adv {w wr w1 : World} {F F' : Nat → Prop} {b g q cap n : Nat} {v : Value} {o : Obj} {xs : List Value} (ha : Adv F w F' wr) (hS : Sl wr F' 5 1 v n xs) (hg1 : (wr.alloc o).grownBy w1 v.ownBlock)
    (hat : (Value.slice (some ⟨g, 0, none⟩) (q + 1) cap).ownBlock = v.ownBlock ∨ (Value.slice (some ⟨g, 0, none⟩) (q + 1) cap).ownBlock = some (wr.heap.size + 1)) (hF : F' b) (u1 u2 : Value) :
    Adv F w (fun j => F' j ∨ j = g) ((w1.setCell ⟨b, 2, none⟩ u1).setCell ⟨b, 3, none⟩ u2) := by
  have hgF : ∀ j, (fun j => F' j ∨ j = g) j → F' j ∨ wr.heap.size ≤ j := by
    rintro j (h | rfl)
    · exact .inl h
    · rcases hat with h | h
      · exact .inl (hS.inF _ (by rw [← h]; rfl))
      · right; simp [Value.ownBlock] at h; omega
  have h1 : Adv F' wr F' ((w1.setCell ⟨b, 2, none⟩ u1).setCell ⟨b, 3, none⟩ u2) :=
    ((((Adv.refl F' wr).alloc o).grown hg1 (fun k hk => .inl (hS.inF k hk))).setCell (p := ⟨b, 2, none⟩) (.inl hF) _).setCell (p := ⟨b, 3, none⟩) (.inl hF) _
  exact ha.trans ⟨h1.os, h1.tape, h1.output, h1.size, h1.block, hgF⟩

theorem Mid.last {w : World} {F : Nat → Prop} {b g q cap N r : Nat} (h : Mid w F b g q cap N r) (hq : 0 < q) : w.cell? ⟨g, q - 1, none⟩ = some (.int .u8 ((N * 2 ^ r % 256 : Nat) : Int)) := by
  rw [h.sl.own.cellAt (q - 1) (by omega), List.getElem?_map, be_last' _ _ hq]; rfl

/-- what the round leaves -/
theorem Mid.step {w : World} {F : Nat → Prop} {b g q cap N r m n y k : Nat} (h : Mid w F b g q cap N r) (hq : 0 < q) (hm : 8 * q = m + r) (hr0 : 0 < r) (hr : r ≤ 8) (hk : k = min n r) (hn : 0 < n) (hy : y < 2 ^ n) (hN : N < 2 ^ m)
    (v : Int) (hv : v = (((N * 2 ^ r % 256) ||| (y / 2 ^ (n - k) % 256 * 2 ^ (r - k) % 256) : Nat) : Int)) (t : Int) (ht : t = ((r - k : Nat) : Int)) :
    WSt ((w.setCell ⟨b, 3, none⟩ (.int .i64 t)).setCell ⟨g, q - 1, none⟩ (.int .u8 v)) F b (N * 2 ^ k + y / 2 ^ (n - k)) (m + k) := by
  have hR := lay_round q N r n y k hr0 hr hq hk hy
  have hqn : qn (m + k) = q := by unfold qn; omega
  have hpad : pad (m + k) = r - k := by unfold pad; omega
  subst hv; subst ht
  refine ⟨⟨.slice (some ⟨g, 0, none⟩) q cap, ?_, ?_⟩, h.inF, ?_⟩
  · rw [hpad]
    exact ((h.blk.set_ 3 _).far (p := ⟨g, q - 1, none⟩) (fun e => h.ne e.symm) _)
  · have h1 : Sl (w.setCell ⟨b, 3, none⟩ (.int .i64 ((r - k : Nat) : Int))) F 5 1 (.slice (some ⟨g, 0, none⟩) q cap) q ((be q (N * 2 ^ r)).map u8) :=
      ⟨own_keep h.sl.own fun j hj => Below.heap_setCell _ _ _ _ (by
        have : g = j := by simpa [Value.ownBlock] using hj
        subst this; exact h.ne), h.sl.inF, fun j hj => by have := h.sl.bd j hj; simpa [World.setCell] using this⟩
    refine ⟨?_, h1.inF, fun j hj => by have := h1.bd j hj; simpa [World.setCell] using this⟩
    have h2 := (h1.own.stored (q - 1) (.int .u8 (((N * 2 ^ r % 256) ||| (y / 2 ^ (n - k) % 256 * 2 ^ (r - k) % 256) : Nat) : Int))).1
    have h3 : ((be q (N * 2 ^ r)).map u8).set (q - 1) (.int .u8 (((N * 2 ^ r % 256) ||| (y / 2 ^ (n - k) % 256 * 2 ^ (r - k) % 256) : Nat) : Int)) = (rowOf (N * 2 ^ k + y / 2 ^ (n - k)) (m + k)).map u8 := by
      rw [hR.1]
      show _ = (be (qn (m + k)) _).map u8
      rw [hqn, hpad, ← hR.2, List.map_set]
      rfl
    rw [h3] at h2
    rw [hqn]
    exact h2
  · refine put_lt N m k _ hN ?_
    rw [Nat.div_lt_iff_lt_mul (Nat.two_pow_pos _), ← Nat.pow_add, show k + (n - k) = n from by omega]
    exact hy

theorem and_mask (y j : Nat) (hy : y < 18446744073709551616) (hj : j < 64) :
    bits .and .u64 (y : Int) (IntKind.u64.wrap (IntKind.u64.wrap (2 ^ j) - 1)) = ((y % 2 ^ j : Nat) : Int) := by
  have hp : 2 ^ j < 2 ^ 64 := Nat.pow_lt_pow_right (by decide) hj
  have hp0 : 0 < 2 ^ j := Nat.two_pow_pos j
  have e1 : IntKind.u64.wrap (2 ^ j) = ((2 ^ j : Nat) : Int) := by
    rw [IntKind.wrap_u64, show ((2 : Int) ^ j) = ((2 ^ j : Nat) : Int) from by simp]
    omega
  have e2 : IntKind.u64.wrap (((2 ^ j : Nat) : Int) - 1) = ((2 ^ j - 1 : Nat) : Int) := by
    rw [IntKind.wrap_u64]
    omega
  rw [e1, e2, u64_and_nat _ _ hy (by omega), Nat.and_two_pow_sub_one_eq_mod]

theorem and_zero (y : Nat) (hy : y < 18446744073709551616) : bits .and .u64 (y : Int) 0 = 0 := by
  have := u64_and_nat y 0 hy (by decide)
  simpa using this

theorem or_u8 (u c : Nat) (hu : u < 256) (hc : c < 256) (v : Int) (hv : v = (c : Int)) : bits .or .u8 (u : Int) v = ((u ||| c : Nat) : Int) := by
  rw [hv]; exact u8_or_nat u c hu hc

theorem pow_lt64 {y k : Nat} (hy : y < 2 ^ k) (hk : k ≤ 64) : y < 18446744073709551616 :=
  Nat.lt_of_lt_of_le hy (by have := Nat.pow_le_pow_right (n := 2) (by decide) hk; simpa using this)

def LayRel (w : World) (F : Nat → Prop) (b N m x n : Nat) (t1 t2 : Value) (wr : World) : Prop :=
  ∃ y k N' m' F', t1 = .int .u64 ((y : Nat) : Int) ∧ t2 = .int .i64 ((k : Nat) : Int) ∧ k ≤ n ∧ y < 2 ^ k ∧ m' + k = m + n ∧ N' * 2 ^ k + y = N * 2 ^ n + x ∧ WSt wr F' b N' m' ∧ Adv F w F' wr ∧ Bd F' wr

/-- the end of a round -/
theorem lay_close {w X : World} {F F' : Nat → Prop} {b g q cap N N' m m' r n k x y j : Nat} (hM : Mid X F' b g q cap N' r) (hq : 0 < q) (hm : 8 * q = m' + r) (hr0 : 0 < r) (hr : r ≤ 8) (hk : k = min j r) (hj : 0 < j) (hy : y < 2 ^ j)
    (hN : N' < 2 ^ m') (hjn : j ≤ n) (hmk : m' + j = m + n) (hNk : N' * 2 ^ j + y = N * 2 ^ n + x) (ha : Adv F w F' X) (hb : Bd F' X)
    (v1 v2 v t : Int) (h1 : v1 = ((y % 2 ^ (j - k) : Nat) : Int)) (h2 : v2 = ((j - k : Nat) : Int))
    (hv : v = (((N' * 2 ^ r % 256) ||| (y / 2 ^ (j - k) % 256 * 2 ^ (r - k) % 256) : Nat) : Int)) (ht : t = ((r - k : Nat) : Int)) :
    LayRel w F b N m x n (.int .u64 v1) (.int .i64 v2) (((X.setCell ⟨b, 3, none⟩ (.int .i64 t)).setCell ⟨g, q - 1, none⟩ (.int .u8 v)).drew) := by
  have hs := hM.step hq hm hr0 hr hk hj hy hN v hv t ht
  have hkj : k ≤ j := by omega
  have hF' : F' g := hM.sl.inF g rfl
  refine ⟨y % 2 ^ (j - k), j - k, N' * 2 ^ k + y / 2 ^ (j - k), m' + k, F', by rw [h1], by rw [h2], by omega, Nat.mod_lt _ (Nat.two_pow_pos _), by omega, ?_, hs.drew, ?_, fun i hi => by have := hb i hi; simpa [World.setCell] using this⟩
  · rw [lay_rest _ _ _ _ hkj]; exact hNk
  · exact (ha.trans (((Adv.refl F' X).setCell (p := ⟨b, 3, none⟩) (.inl hM.inF) _).setCell (p := ⟨g, q - 1, none⟩) (.inl hF') _)).drew
end Go.Proofs.YtolcnbiaiolcoaaGreat
namespace Go.Proofs.YtolcnbiaiolcoaaGreat
open Go.RowKit

set_option maxRecDepth 3000 in
set_option maxHeartbeats 2000000 in
theorem lay_any (b N m x n : Nat) (F : Nat → Prop) (w : World) (hw : WSt w F b N m) (hF : Bd F w) (hn : n ≤ 64) (hx : x < 2 ^ n) (hm : m + n ≤ 1000000000) :
    Calls Tryz.prog 130 #[.pointer (some ⟨b, 0, none⟩), .int .u64 x, .int .i64 n] w fun e w' => e = .returned (.tuple #[]) ∧
      ∃ F', WSt w' F' b (N * 2 ^ n + x) (m + n) ∧ Adv F w F' w' ∧ Bd F' w' := by
  go_enter Tryz.func130, Tryz.ntmps130
  go_wp2_with fail
  go_loopw [1, 2] (LayRel w F b N m x n) (fun _ t _ => (intOf t).toNat)
  case atStart => exact ⟨x, n, N, m, F, rfl, rfl, Nat.le_refl _, hx, rfl, rfl, hw, Adv.refl _ _, hF⟩
  case round =>
    obtain ⟨y, k, N', m', F', rfl, rfl, hkn, hy, hmk, hNk, hs, ha, hb⟩ := hrel
    have HM := Lib.hid hmk
    have HN := Lib.hid hNk
    clear hmk hNk
    obtain ⟨rowv, hB, hS⟩ := hs.ex
    have hq8 := qn_pad m'
    have hpl := pad_lt m'
    have hN' := hs.lt
    have hF' := hs.inF
    obtain ⟨r, hr⟩ : ∃ r, r = pad m' := ⟨_, rfl⟩
    obtain ⟨q, hq⟩ : ∃ q, q = qn m' := ⟨_, rfl⟩
    have hrow : rowOf N' m' = be q (N' * 2 ^ r) := by rw [hr, hq]; rfl
    rw [hrow] at hS
    rw [← hr] at hB hpl hq8
    rw [← hq] at hS hq8
    have HS := Lib.hid hs
    clear hrow hr hq hs
    have c3 : wr.cell? ⟨b, 3, none⟩ = some (.int .i64 r) := hB.cell 3
    have f3 := hB.frozen 3
    have c2 : wr.cell? ⟨b, 2, none⟩ = some rowv := hB.cell 2
    have f2 := hB.frozen 2
    have HQ := Lib.hid hq8
    have hqb : q ≤ 1000000000 := by have := HM.out; omega
    clear hq8
    by_cases hk0 : 0 < k
    · by_cases hp : 0 < r
      · have hq : 0 < q := by have := HQ.out; omega
        obtain ⟨g, cap, rfl, hFg, hqc⟩ := hS.form hq
        have hM : Mid wr F' b g q cap N' r := ⟨hB, hS, hF', fun e => own_blk_ne hS.own hB (by decide) (by rw [e]; rfl)⟩
        have hg := hM.last hq
        have fg := hS.own.frozenAt (q - 1)
        have hgb : g ≠ b := hM.ne
        have hbg : b ≠ g := hM.ne.symm
        have hr1 : ((r : Int) == 0) = false := by simp; omega
        obtain ⟨u, hu⟩ : ∃ u, u = N' * 2 ^ r % 256 := ⟨_, rfl⟩
        rw [← hu] at hg
        have HU := Lib.hid hu
        have HMid := Lib.hid hM
        have hy64 : y < 18446744073709551616 := Nat.lt_of_lt_of_le hy (by have := Nat.pow_le_pow_right (n := 2) (by decide) (show k ≤ 64 by omega); simpa using this)
        have hk64 : k ≤ 64 := by omega
        have HY := Lib.hid hy
        clear hu hM hB hS hy
        have hkk := and_zero y hy64
        have hu256 : u < 256 := by rw [HU.out]; exact Nat.mod_lt _ (by decide)
        rcases Nat.lt_trichotomy k r with hkr | hkr | hkr
        · go_wp2_with fail
          go_region
          go_wp2
          refine ⟨lay_close (k := k) HMid.out hq HQ.out hp (by omega) (by omega) hk0 HY.out hN' hkn HM.out HN.out ha hb _ _ _ _ ?_ ?_ ?_ ?_, ?_⟩
          · simp [Nat.mod_one]
          · simp
          · rw [← HU.out]
            exact or_u8 u _ hu256 (Nat.mod_lt _ (by decide)) _ (cast_c0 y k (r - k))
          · omega
          · simp [intOf] <;> omega
        · subst hkr
          go_wp2_with fail
          go_region
          go_wp2
          refine ⟨lay_close (k := k) HMid.out hq HQ.out hp (by omega) (by omega) hk0 HY.out hN' hkn HM.out HN.out ha hb _ _ _ _ ?_ ?_ ?_ ?_, ?_⟩
          · simp [Nat.mod_one]
          · simp
          · rw [← HU.out]
            exact or_u8 u _ hu256 (Nat.mod_lt _ (by decide)) _ (by simp)
          · omega
          · simp [intOf] <;> omega
        · have hmk := and_mask y (k - r) hy64 (by omega)
          go_wp2_with fail
          go_region
          go_wp2
          refine ⟨lay_close (k := r) HMid.out hq HQ.out hp (by omega) (by omega) hk0 HY.out hN' hkn HM.out HN.out ha hb _ _ _ _ ?_ ?_ ?_ ?_, ?_⟩
          · rfl
          · omega
          · rw [← HU.out]
            exact or_u8 u _ hu256 (Nat.mod_lt _ (by decide)) _ (by simp)
          · omega
          · simp [intOf] <;> omega
      · obtain rfl : r = 0 := by omega
        obtain ⟨a0, cap0, rfl, hqc0, _⟩ := hS.form0
        have HBl := Lib.hid hB
        have HSl := Lib.hid hS
        have hbn : (Value.slice a0 q cap0).ownBlock ≠ some b := own_blk_ne hS.own hB (by decide)
        have hown := hS.own
        have hblt := hB.lt
        have c3 : wr.cell? ⟨b, 3, none⟩ = some (.int .i64 0) := hB.cell 3
        have hy64 : y < 18446744073709551616 := pow_lt64 hy (by omega)
        have hk64 : k ≤ 64 := by omega
        have HY := Lib.hid hy
        clear hB hS hy
        obtain ⟨i0, hi, hz0, hz1, hz2⟩ := info_parts Tryz.infoU8
        go_upto_region 4 with ((first
          | (at_builtin; refine wpList_append_own_at _ rfl (.tmp 18) (.tmp 19) 53 rfl 0 5 i0 (.int .u8 0) 1 1 Tryz.underlying53 hi hz0 hz1 hz2 rfl (by decide) (.slice a0 q cap0) q _ rfl (hown.alloc _) ⟨wr.heap.size, 0, none⟩ 1 1 [.int .u8 0] rfl rfl (cell_one_new _ _ _) ?c2 ?c3 ?c4 (Nat.zero_le _) ?c5)
          | fail))
        case c2 => intro u hu; simp at hu; subst hu; rfl
        case c3 => unfold maxLen; omega
        case c4 => omega
        case c5 =>
          intro v' w1 hown1 hg1 _ hat1
          obtain ⟨g, cap, rfl, _, hgl⟩ := hown1.form (by omega)
          have hB1 : Blk w1 b 178 #[.bool true, .int .i64 0, .slice a0 q cap0, .int .i64 0] := (HBl.out.alloc _).keep (hg1.block b (by simp; omega) (fun e => hbn e.symm))
          have c2 : w1.cell? ⟨b, 2, none⟩ = some (.slice a0 q cap0) := hB1.cell 2
          have c3 : w1.cell? ⟨b, 3, none⟩ = some (.int .i64 0) := hB1.cell 3
          have f2 := hB1.frozen 2
          have f3 := hB1.frozen 3
          have hgb : g ≠ b := fun e => own_blk_ne hown1 hB1 (by decide) (by rw [e]; rfl)
          have hbg : b ≠ g := hgb.symm
          have HX := Lib.hid (Mid.grown hB1 hown1 hF' hgb hgl (by have := hg1.size; simp at this; exact fun j hj => Nat.lt_of_lt_of_le (hb j hj) (by omega)))
          have hA := grown_adv (b := b) ha HSl.out hg1 hat1 hF' (.slice (some ⟨g, 0, none⟩) (q + 1) cap) (.int .i64 8)
          clear hB1
          go_upto_region 4 with (fail)
          generalize (w1.setCell ⟨b, 2, none⟩ (.slice (some ⟨g, 0, none⟩) (q + 1) cap)).setCell ⟨b, 3, none⟩ (.int .i64 8) = X at *
          have hM := HX.out
          have hbX := hM.sl.bd
          have hg : X.cell? ⟨g, q, none⟩ = some (.int .u8 0) := by
            have h := hM.last (by omega)
            rwa [show N' * 2 ^ 8 % 256 = 0 from Nat.mul_mod_left _ _] at h
          have fg : X.frozen? ⟨g, q, none⟩ = false := hM.sl.own.frozenAt q
          have c2 : X.cell? ⟨b, 2, none⟩ = some (.slice (some ⟨g, 0, none⟩) (q + 1) cap) := hM.blk.cell 2
          have c3 : X.cell? ⟨b, 3, none⟩ = some (.int .i64 8) := hM.blk.cell 3
          have f2 := hM.blk.frozen 2
          have f3 := hM.blk.frozen 3
          have hkk := and_zero y hy64
          clear hM
          rcases Nat.lt_trichotomy k 8 with hkr | hkr | hkr
          · go_wp2_with fail
            go_region
            go_wp2
            refine ⟨lay_close (k := k) (q := q + 1) HX.out (by omega) (by have := HQ.out; omega) (by decide) (by decide) (by omega) (by omega) HY.out hN' hkn HM.out HN.out hA hbX _ _ _ _ ?_ ?_ ?_ ?_, ?_⟩
            · simp [Nat.mod_one]
            · simp
            · rw [show N' * 2 ^ 8 % 256 = 0 from Nat.mul_mod_left _ _]
              exact or_u8 0 _ (by decide) (Nat.mod_lt _ (by decide)) _ (cast_c0 y k (8 - k))
            · omega
            · simp [intOf] <;> omega
          · subst hkr
            go_wp2_with fail
            go_region
            go_wp2
            refine ⟨lay_close (k := 8) (q := q + 1) HX.out (by omega) (by have := HQ.out; omega) (by decide) (by decide) (by omega) (by omega) HY.out hN' hkn HM.out HN.out hA hbX _ _ _ _ ?_ ?_ ?_ ?_, ?_⟩
            · simp [Nat.mod_one]
            · simp
            · rw [show N' * 2 ^ 8 % 256 = 0 from Nat.mul_mod_left _ _]
              exact or_u8 0 _ (by decide) (Nat.mod_lt _ (by decide)) _ (by simp)
            · omega
            · simp [intOf] <;> omega
          · have hmk := and_mask y (k - 8) hy64 (by omega)
            go_wp2_with fail
            go_region
            go_wp2
            refine ⟨lay_close (k := 8) (q := q + 1) HX.out (by omega) (by have := HQ.out; omega) (by decide) (by decide) (by omega) (by omega) HY.out hN' hkn HM.out HN.out hA hbX _ _ _ _ ?_ ?_ ?_ ?_, ?_⟩
            · rfl
            · omega
            · rw [show N' * 2 ^ 8 % 256 = 0 from Nat.mul_mod_left _ _]
              exact or_u8 0 _ (by decide) (Nat.mod_lt _ (by decide)) _ (by simp)
            · omega
            · simp [intOf] <;> omega
    · go_wp2
      obtain rfl : k = 0 := by omega
      go_end0
      have h1 := HM.out
      have h2 := HN.out
      obtain rfl : y = 0 := by omega
      refine ⟨rfl, F', ?_, ha, hb⟩
      rw [← h2, ← h1]
      simpa using HS.out
end Go.Proofs.YtolcnbiaiolcoaaGreat
