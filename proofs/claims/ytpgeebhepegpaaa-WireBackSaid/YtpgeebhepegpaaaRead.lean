/- The reader's state, and its take. -/
import Derived.Test.YtpgeebhepegpaaaMath2
import Derived.Test.YtpgeebhepegpaaaDone
namespace Go.Proofs.Ytpgeebhepegpaaa
open Go.RowKit

/-- The reader at block b has q bytes, the digits of V; the first a bits of them were read. -/
structure RSt (w : World) (F : Nat → Prop) (b q V a : Nat) : Prop where
  ex : ∃ rowv, Blk w b 103 #[.bool true, .int .i64 0, rowv, .int .i64 (a : Nat)] ∧ Sl w F 5 1 rowv q ((be q V).map u8)
  inF : F b
  le : a ≤ 8 * q
  sm : q ≤ 1000000000

/-- The reader at block b has the error e. -/
structure RErr (w : World) (F : Nat → Prop) (b : Nat) (e : Int) : Prop where
  ex : ∃ v r, Blk w b 103 #[.bool true, .int .i64 e, v, r]
  ne : (e != 0) = true
  inF : F b
  bd : Bd F w

set_option maxRecDepth 3000 in
theorem open_any (v : Value) (q V : Nat) (w : World) (hv : Rd w 1 v q ((be q V).map u8)) (hl : q ≤ 1000000000) :
    Calls Try.prog 48 #[v] w fun e w' => ∃ b F, e = .returned (.pointer (some ⟨b, 0, none⟩)) ∧ RSt w' F b q V 0 ∧ Adv Nul w F w' ∧ Bd F w' := by
  have H := Lib.hid hv
  clear hv
  go_enter Try.func48, Try.ntmps48
  go_wp2_with (first
    | (go_at_call 72; refine (clone_any v _ _ _ H.out (u8_one _) hl).mono ?_; rintro e w1 ⟨v1, F1, rfl, hs1, ha1⟩; obtain ⟨a1, c1, rfl, _, _⟩ := hs1.form0))
  go_ret
  refine ⟨w1.heap.size, fun k => F1 k ∨ k = w1.heap.size, rfl, ⟨⟨_, Blk.new _ _ _, ?_⟩, .inr rfl, by omega, hl⟩, ?_, ?_⟩
  · exact ⟨own_keep hs1.own (fun k hk => Below.heap_alloc _ _ _ (hs1.bd k (hs1.inF k hk))), fun k hk => .inl (hs1.inF k hk), fun k hk => by
      rcases hk with h | h
      · have := hs1.bd k h; simp; omega
      · simp [h]⟩
  · have h1 := ha1.alloc (.cells #[.bool true, .int .i64 0, .slice a1 q c1, .int .i64 0] 103)
    refine ⟨h1.os, h1.tape, h1.output, h1.size, h1.block, fun k hk => ?_⟩
    rcases hk with h | h
    · exact h1.into k h
    · right; rw [h]; exact ha1.size
  · intro k hk
    rcases hk with h | h
    · have := hs1.bd k h; simp; omega
    · simp [h]

def TakeRel (w : World) (F : Nat → Prop) (b q V a n : Nat) (t5 t1 : Value) (wr : World) : Prop :=
  ∃ c k, t1 = .int .i64 ((k : Nat) : Int) ∧ t5 = .int .u64 ((bitsAt q V a c : Nat) : Int) ∧ c + k = n ∧ RSt wr F b q V (a + c) ∧ Adv (· = b) w (· = b) wr ∧ Bd F wr

theorem take_val (X u k s q V a c p : Nat) (hX : X = bitsAt q V a c) (hu : u = V / 256 ^ (q - 1 - p / 8) % 256) (hp : p = a + c) (hs : s = 8 - p % 8 - k) (hk : k ≤ 8 - p % 8) (hc : c + k ≤ 64) (hpq : p + k ≤ 8 * q) (hp8 : p / 8 < q)
    (v : Int) (hv : v = ((u / 2 ^ s : Nat) : Int)) :
    bits .or .u64 (IntKind.u64.wrap ((X : Int) * 2 ^ k)) (bits .and .u64 v (IntKind.u64.wrap (IntKind.u64.wrap (2 ^ k) - 1))) = ((bitsAt q V a (c + k) : Nat) : Int) := by
  have hu256 : u < 256 := by rw [hu]; exact Nat.mod_lt _ (by decide)
  have hv256 : u / 2 ^ s ≤ u := Nat.div_le_self _ _
  have e2 : IntKind.u64.wrap ((X : Int) * 2 ^ k) = ((X * 2 ^ k % 18446744073709551616 : Nat) : Int) := by
    rw [IntKind.wrap_u64, Int.natCast_emod, Int.natCast_mul, Int.natCast_pow]; rfl
  rw [hv, e2, and_mask _ k (by omega) (by omega), u64_or_nat _ _ (Nat.mod_lt _ (by decide)) (Nat.lt_of_le_of_lt (Nat.mod_le _ _) (by omega))]
  have h1 : u / 2 ^ s % 2 ^ k = bitsAt q V p k := by rw [hu, hs]; exact bitsAt_byte q V p k hk hp8
  rw [h1, or_sum X _ c k (by rw [hX]; exact bitsAt_lt _ _ _ _) (bitsAt_lt _ _ _ _) hc, bitsAt_split q V a c k (by omega), hX, hp]

theorem wrap_div (u s : Nat) (hu : u < 256) : IntKind.u64.wrap ((u : Int) / 2 ^ s) = ((u / 2 ^ s : Nat) : Int) := by
  have h : u / 2 ^ s ≤ u := Nat.div_le_self _ _
  have e : (u : Int) / 2 ^ s = ((u / 2 ^ s : Nat) : Int) := by rw [Int.natCast_ediv, Int.natCast_pow]; rfl
  rw [e, IntKind.wrap_u64]
  have h2 : ((u / 2 ^ s : Nat) : Int) ≤ u := by exact_mod_cast h
  have h3 : (0 : Int) ≤ ((u / 2 ^ s : Nat) : Int) := Int.natCast_nonneg _
  exact Int.emod_eq_of_lt h3 (by omega)

theorem take_close {w wr : World} {F : Nat → Prop} {b q V a n c k kk p j : Nat} {v : Value} (hB : Blk wr b 103 #[.bool true, .int .i64 0, v, .int .i64 (p : Nat)]) (hS : Sl wr F 5 1 v q ((be q V).map u8)) (hFb : F b) (hq : q ≤ 1000000000)
    (hp : p = a + c) (hck : c + k = n) (hkk : kk ≤ k) (hpk : p + k ≤ 8 * q) (ha : Adv (· = b) w (· = b) wr) (x t m : Int) (hx : x = ((bitsAt q V a (c + kk) : Nat) : Int)) (ht : t = ((p + kk : Nat) : Int)) (hm : m = ((k - kk : Nat) : Int)) :
    TakeRel w F b q V a n (.int .u64 x) (.int .i64 m) ((wr.drewN j).setCell ⟨b, 3, none⟩ (.int .i64 t)) := by
  subst hx; subst ht; subst hm
  have hne : v.ownBlock ≠ some b := own_blk_ne hS.own hB (by decide)
  refine ⟨c + kk, k - kk, rfl, rfl, by omega, ⟨⟨v, ?_, ?_⟩, hFb, by omega, hq⟩, (ha.drewN j).setCell (p := ⟨b, 3, none⟩) (.inl rfl) _, fun i hi => by have := hS.bd i hi; simpa [World.setCell] using this⟩
  · have h := (show Blk (wr.drewN j) b 103 _ from hB).set_ 3 (.int .i64 ((p + kk : Nat) : Int))
    rw [show a + (c + kk) = p + kk from by omega]
    exact h
  · refine ⟨own_keep hS.own (fun i hi => ?_), hS.inF, fun i hi => by have := hS.bd i hi; simpa [World.setCell] using this⟩
    exact Below.heap_setCell (wr.drewN j) _ _ _ (fun e => hne (by rw [hi, e]))

set_option maxRecDepth 3000 in
set_option maxHeartbeats 1000000 in
theorem take_any (b q V a n : Nat) (F : Nat → Prop) (w : World) (hw : RSt w F b q V a) (hF : Bd F w) (hn : n ≤ 64) (hx : a + n ≤ 8 * q) :
    Calls Try.prog 80 #[.pointer (some ⟨b, 0, none⟩), .int .i64 n] w fun e w' => e = .returned (.int .u64 ((bitsAt q V a n : Nat) : Int)) ∧ RSt w' F b q V (a + n) ∧ Adv (· = b) w (· = b) w' ∧ Bd F w' := by
  have hq := hw.sm
  have H0 := Lib.hid hw
  clear hw
  go_enter Try.func80, Try.ntmps80
  go_wp2_with fail
  go_loopw [5, 1] (TakeRel w F b q V a n) (fun _ t _ => (intOf t).toNat)
  case atStart => exact ⟨0, n, rfl, by rw [bitsAt_zero]; rfl, by omega, H0.out, Adv.refl _ _, hF⟩
  case round =>
    obtain ⟨c, k, rfl, rfl, hck, hR, ha, hb⟩ := hrel
    obtain ⟨rowv, hB, hS⟩ := hR.ex
    have hFb := hR.inF
    by_cases hk0 : 0 < k
    · have hq0 : 0 < q := by omega
      obtain ⟨g, cap, rfl, hFg, hqc⟩ := hS.form hq0
      obtain ⟨p, hp⟩ : ∃ p, p = a + c := ⟨_, rfl⟩
      rw [← hp] at hB
      have c2 : wr.cell? ⟨b, 2, none⟩ = some (.slice (some ⟨g, 0, none⟩) q cap) := hB.cell 2
      have c3 : wr.cell? ⟨b, 3, none⟩ = some (.int .i64 p) := hB.cell 3
      have f3 := hB.frozen 3
      have hpq : p + k ≤ 8 * q := by omega
      have hp8 : p / 8 < q := by omega
      obtain ⟨u, hu⟩ : ∃ u, u = V / 256 ^ (q - 1 - p / 8) % 256 := ⟨_, rfl⟩
      have hg : wr.cell? ⟨g, p / 8, none⟩ = some (.int .u8 u) := by
        rw [hS.own.cellAt (p / 8) (by omega), List.getElem?_map, be_get _ _ _ hp8, ← hu]; rfl
      have hu256 : u < 256 := by rw [hu]; exact Nat.mod_lt _ (by decide)
      obtain ⟨X, hX⟩ : ∃ X, X = bitsAt q V a c := ⟨_, rfl⟩
      have hXlt : X < 18446744073709551616 := by rw [hX]; exact pow_lt64 (bitsAt_lt _ _ _ _) (by omega)
      rw [← hX]
      have HX := Lib.hid hX
      have HU := Lib.hid hu
      have HP := Lib.hid hp
      have HB := Lib.hid hB
      have HS := Lib.hid hS
      have HC := Lib.hid hck
      have hk64 : k ≤ 64 := by omega
      obtain ⟨r, hr⟩ : ∃ r, r = p % 8 := ⟨_, rfl⟩
      have hr8 : r < 8 := by omega
      have hrem : ((p : Int) % 8) = (r : Int) := by omega
      clear hX hu hp hB hS hR hck hr
      rcases Nat.lt_trichotomy k (8 - r) with hkr | hkr | hkr
      · go_wp2_with fail
        go_quiet (fail)
        go_wp2_with fail
        go_quiet (fail)
        go_wp2
        refine ⟨take_close (kk := k) HB.out HS.out hFb hq HP.out HC.out (by omega) hpq ha _ _ _ (take_val X u k (8 - r - k) q V a c p HX.out HU.out HP.out (by omega) (by omega) (by have := HC.out; omega) (by omega) hp8 _ ?_) ?_ ?_, ?_⟩
        · exact wrap_div u _ hu256
        · omega
        · omega
        · simp [intOf] <;> omega
      · subst hkr
        go_wp2_with fail
        go_quiet (fail)
        go_wp2_with fail
        go_quiet (fail)
        go_wp2
        refine ⟨take_close (kk := 8 - r) HB.out HS.out hFb hq HP.out HC.out (by omega) hpq ha _ _ _ (take_val X u (8 - r) 0 q V a c p HX.out HU.out HP.out (by omega) (by omega) (by have := HC.out; omega) (by omega) hp8 _ ?_) ?_ ?_, ?_⟩
        · simp
        · omega
        · omega
        · simp [intOf] <;> omega
      · go_wp2_with fail
        go_quiet (fail)
        go_wp2_with fail
        go_quiet (fail)
        go_wp2
        refine ⟨take_close (kk := 8 - r) HB.out HS.out hFb hq HP.out HC.out (by omega) hpq ha _ _ _ (take_val X u (8 - r) 0 q V a c p HX.out HU.out HP.out (by omega) (by omega) (by have := HC.out; omega) (by omega) hp8 _ ?_) ?_ ?_, ?_⟩
        · simp
        · omega
        · omega
        · simp [intOf] <;> omega
    · obtain rfl : k = 0 := by omega
      have h : c = n := by omega
      subst h
      go_wp2
      go_ret
      exact ⟨rfl, hR, ha, hb⟩
end Go.Proofs.Ytpgeebhepegpaaa
