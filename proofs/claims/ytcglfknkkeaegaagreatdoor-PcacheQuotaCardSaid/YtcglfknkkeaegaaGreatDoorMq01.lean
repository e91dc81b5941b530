/- The reader's state, and its take. The reader's calls. The little play that each statement asks for. The reader's Text. The document's own answers: Fits, Bits. Rows of bits: parts, what a list of bytes is as a number. The first document answer's plain words: Within, Same, Cut, Copy. The document's own reader: Of, Number, Left, End, Get. Inodes: their numbers, the sector that one has, the one that bytes are. Texts cut short. The statements' lists of calls, and few. The writer's Text. Plain facts: what was put is got. Slots: their parts, the sector that one has, the one that bytes are. The footprint of one block. -/
import Derived.Test.YtcglfknkkeaegaaGreatDoorMq00
import Derived.Laws.IdiomStrings
import Derived.Deep.QuietTactic
import Derived.BigQuiet
import Derived.Laws.BytesArg
namespace Go.Proofs.YtcglfknkkeaegaaGreatDoor
open Go.RowKit

/-- The reader at block b has q bytes, the digits of V; the first a bits of them were read. -/
structure RSt (w : World) (F : Nat → Prop) (b q V a : Nat) : Prop where
  ex : ∃ rowv, Blk w b 231 #[.bool true, .int .i64 0, rowv, .int .i64 (a : Nat)] ∧ Sl w F 5 1 rowv q ((be q V).map u8)
  inF : F b
  le : a ≤ 8 * q
  sm : q ≤ 1000000000

/-- The reader at block b has the error e. -/
structure RErr (w : World) (F : Nat → Prop) (b : Nat) (e : Int) : Prop where
  ex : ∃ v r, Blk w b 231 #[.bool true, .int .i64 e, v, r]
  ne : (e != 0) = true
  inF : F b
  bd : Bd F w

set_option maxRecDepth 3000 in
theorem open_any (v : Value) (q V : Nat) (w : World) (hv : Rd w 1 v q ((be q V).map u8)) (hl : q ≤ 1000000000) :
    Calls Tryz.prog 142 #[v] w fun e w' => ∃ b F, e = .returned (.pointer (some ⟨b, 0, none⟩)) ∧ RSt w' F b q V 0 ∧ Adv Nul w F w' ∧ Bd F w' := by
  have H := Lib.hid hv
  clear hv
  go_enter Tryz.func142, Tryz.ntmps142
  go_wp2_with (first
    | (go_at_call 126; refine (clone_any v _ _ _ H.out (u8_one _) hl).mono ?_; rintro e w1 ⟨v1, F1, rfl, hs1, ha1⟩; obtain ⟨a1, c1, rfl, _, _⟩ := hs1.form0))
  go_ret
  refine ⟨w1.heap.size, fun k => F1 k ∨ k = w1.heap.size, rfl, ⟨⟨_, Blk.new _ _ _, ?_⟩, .inr rfl, by omega, hl⟩, ?_, ?_⟩
  · exact ⟨own_keep hs1.own (fun k hk => Below.heap_alloc _ _ _ (hs1.bd k (hs1.inF k hk))), fun k hk => .inl (hs1.inF k hk), fun k hk => by
      rcases hk with h | h
      · have := hs1.bd k h; simp; omega
      · simp [h]⟩
  · have h1 := ha1.alloc (.cells #[.bool true, .int .i64 0, .slice a1 q c1, .int .i64 0] 231)
    refine ⟨h1.os, h1.tape, h1.output, h1.size, h1.block, fun k hk => ?_⟩
    rcases hk with h | h
    · exact h1.into k h
    · right; rw [h]; exact ha1.size
  · intro k hk
    rcases hk with h | h
    · have := hs1.bd k h; simp; omega
    · simp [h]

def TakeRel (w : World) (F : Nat → Prop) (b q V a n : Nat) (t5 t1 : Value) (wr : World) : Prop :=
  ∃ c k, t1 = .int .i64 ((k : Nat) : Int) ∧ t5 = .int .u64 ((bitsAt q V a c : Nat) : Int) ∧ c + k = n ∧ RSt wr F b q V (a + c) ∧ Adv (· = b) w (· = b) wr ∧ Bd F wr

theorem take_val (X u k s q V a c p : Nat) (hX : X = bitsAt q V a c) (hu : u = V / 256 ^ (q - 1 - p / 8) % 256) (hp : p = a + c) (hs : s = 8 - p % 8 - k) (hk : k ≤ 8 - p % 8) (hc : c + k ≤ 64) (hpq : p + k ≤ 8 * q) (hp8 : p / 8 < q)
    (v : Int) (hv : v = ((u / 2 ^ s : Nat) : Int)) :
    bits .or .u64 (IntKind.u64.wrap ((X : Int) * 2 ^ k)) (bits .and .u64 v (IntKind.u64.wrap (IntKind.u64.wrap (2 ^ k) - 1))) = ((bitsAt q V a (c + k) : Nat) : Int) := by
  have hu256 : u < 256 := by rw [hu]; exact Nat.mod_lt _ (by decide)
  have hv256 : u / 2 ^ s ≤ u := Nat.div_le_self _ _
  have e2 : IntKind.u64.wrap ((X : Int) * 2 ^ k) = ((X * 2 ^ k % 18446744073709551616 : Nat) : Int) := by
    rw [IntKind.wrap_u64, Int.natCast_emod, Int.natCast_mul, Int.natCast_pow]; rfl
  rw [hv, e2, and_mask _ k (by omega) (by omega), u64_or_nat _ _ (Nat.mod_lt _ (by decide)) (Nat.lt_of_le_of_lt (Nat.mod_le _ _) (by omega))]
  have h1 : u / 2 ^ s % 2 ^ k = bitsAt q V p k := by rw [hu, hs]; exact bitsAt_byte q V p k hk hp8
  rw [h1, or_sum X _ c k (by rw [hX]; exact bitsAt_lt _ _ _ _) (bitsAt_lt _ _ _ _) hc, bitsAt_split q V a c k (by omega), hX, hp]

theorem wrap_div (u s : Nat) (hu : u < 256) : IntKind.u64.wrap ((u : Int) / 2 ^ s) = ((u / 2 ^ s : Nat) : Int) := by
  have h : u / 2 ^ s ≤ u := Nat.div_le_self _ _
  have e : (u : Int) / 2 ^ s = ((u / 2 ^ s : Nat) : Int) := by rw [Int.natCast_ediv, Int.natCast_pow]; rfl
  rw [e, IntKind.wrap_u64]
  have h2 : ((u / 2 ^ s : Nat) : Int) ≤ u := by exact_mod_cast h
  have h3 : (0 : Int) ≤ ((u / 2 ^ s : Nat) : Int) := Int.natCast_nonneg _
  exact Int.emod_eq_of_lt h3 (by omega)

theorem take_close {w wr : World} {F : Nat → Prop} {b q V a n c k kk p j : Nat} {v : Value} (hB : Blk wr b 231 #[.bool true, .int .i64 0, v, .int .i64 (p : Nat)]) (hS : Sl wr F 5 1 v q ((be q V).map u8)) (hFb : F b) (hq : q ≤ 1000000000)
    (hp : p = a + c) (hck : c + k = n) (hkk : kk ≤ k) (hpk : p + k ≤ 8 * q) (ha : Adv (· = b) w (· = b) wr) (x t m : Int) (hx : x = ((bitsAt q V a (c + kk) : Nat) : Int)) (ht : t = ((p + kk : Nat) : Int)) (hm : m = ((k - kk : Nat) : Int)) :
    TakeRel w F b q V a n (.int .u64 x) (.int .i64 m) ((wr.drewN j).setCell ⟨b, 3, none⟩ (.int .i64 t)) := by
  subst hx; subst ht; subst hm
  have hne : v.ownBlock ≠ some b := own_blk_ne hS.own hB (by decide)
  refine ⟨c + kk, k - kk, rfl, rfl, by omega, ⟨⟨v, ?_, ?_⟩, hFb, by omega, hq⟩, (ha.drewN j).setCell (p := ⟨b, 3, none⟩) (.inl rfl) _, fun i hi => by have := hS.bd i hi; simpa [World.setCell] using this⟩
  · have h := (show Blk (wr.drewN j) b 231 _ from hB).set_ 3 (.int .i64 ((p + kk : Nat) : Int))
    rw [show a + (c + kk) = p + kk from by omega]
    exact h
  · refine ⟨own_keep hS.own (fun i hi => ?_), hS.inF, fun i hi => by have := hS.bd i hi; simpa [World.setCell] using this⟩
    exact Below.heap_setCell (wr.drewN j) _ _ _ (fun e => hne (by rw [hi, e]))

set_option maxRecDepth 3000 in
set_option maxHeartbeats 1000000 in
theorem take_any (b q V a n : Nat) (F : Nat → Prop) (w : World) (hw : RSt w F b q V a) (hF : Bd F w) (hn : n ≤ 64) (hx : a + n ≤ 8 * q) :
    Calls Tryz.prog 174 #[.pointer (some ⟨b, 0, none⟩), .int .i64 n] w fun e w' => e = .returned (.int .u64 ((bitsAt q V a n : Nat) : Int)) ∧ RSt w' F b q V (a + n) ∧ Adv (· = b) w (· = b) w' ∧ Bd F w' := by
  have hq := hw.sm
  have H0 := Lib.hid hw
  clear hw
  go_enter Tryz.func174, Tryz.ntmps174
  go_wp2_with fail
  go_loopw [5, 1] (TakeRel w F b q V a n) (fun _ t _ => (intOf t).toNat)
  case atStart => exact ⟨0, n, rfl, by rw [bitsAt_zero]; rfl, by omega, H0.out, Adv.refl _ _, hF⟩
  case round =>
    obtain ⟨c, k, rfl, rfl, hck, hR, ha, hb⟩ := hrel
    obtain ⟨rowv, hB, hS⟩ := hR.ex
    have hFb := hR.inF
    by_cases hk0 : 0 < k
    · have hq0 : 0 < q := by omega
      obtain ⟨g, cap, rfl, hFg, hqc⟩ := hS.form hq0
      obtain ⟨p, hp⟩ : ∃ p, p = a + c := ⟨_, rfl⟩
      rw [← hp] at hB
      have c2 : wr.cell? ⟨b, 2, none⟩ = some (.slice (some ⟨g, 0, none⟩) q cap) := hB.cell 2
      have c3 : wr.cell? ⟨b, 3, none⟩ = some (.int .i64 p) := hB.cell 3
      have f3 := hB.frozen 3
      have hpq : p + k ≤ 8 * q := by omega
      have hp8 : p / 8 < q := by omega
      obtain ⟨u, hu⟩ : ∃ u, u = V / 256 ^ (q - 1 - p / 8) % 256 := ⟨_, rfl⟩
      have hg : wr.cell? ⟨g, p / 8, none⟩ = some (.int .u8 u) := by
        rw [hS.own.cellAt (p / 8) (by omega), List.getElem?_map, be_get _ _ _ hp8, ← hu]; rfl
      have hu256 : u < 256 := by rw [hu]; exact Nat.mod_lt _ (by decide)
      obtain ⟨X, hX⟩ : ∃ X, X = bitsAt q V a c := ⟨_, rfl⟩
      have hXlt : X < 18446744073709551616 := by rw [hX]; exact pow_lt64 (bitsAt_lt _ _ _ _) (by omega)
      rw [← hX]
      have HX := Lib.hid hX
      have HU := Lib.hid hu
      have HP := Lib.hid hp
      have HB := Lib.hid hB
      have HS := Lib.hid hS
      have HC := Lib.hid hck
      have hk64 : k ≤ 64 := by omega
      obtain ⟨r, hr⟩ : ∃ r, r = p % 8 := ⟨_, rfl⟩
      have hr8 : r < 8 := by omega
      have hrem : ((p : Int) % 8) = (r : Int) := by omega
      clear hX hu hp hB hS hR hck hr
      rcases Nat.lt_trichotomy k (8 - r) with hkr | hkr | hkr
      · go_wp2_with fail
        go_quiet (fail)
        go_wp2_with fail
        go_quiet (fail)
        go_wp2
        refine ⟨take_close (kk := k) HB.out HS.out hFb hq HP.out HC.out (by omega) hpq ha _ _ _ (take_val X u k (8 - r - k) q V a c p HX.out HU.out HP.out (by omega) (by omega) (by have := HC.out; omega) (by omega) hp8 _ ?_) ?_ ?_, ?_⟩
        · exact wrap_div u _ hu256
        · omega
        · omega
        · simp [intOf] <;> omega
      · subst hkr
        go_wp2_with fail
        go_quiet (fail)
        go_wp2_with fail
        go_quiet (fail)
        go_wp2
        refine ⟨take_close (kk := 8 - r) HB.out HS.out hFb hq HP.out HC.out (by omega) hpq ha _ _ _ (take_val X u (8 - r) 0 q V a c p HX.out HU.out HP.out (by omega) (by omega) (by have := HC.out; omega) (by omega) hp8 _ ?_) ?_ ?_, ?_⟩
        · simp
        · omega
        · omega
        · simp [intOf] <;> omega
      · go_wp2_with fail
        go_quiet (fail)
        go_wp2_with fail
        go_quiet (fail)
        go_wp2
        refine ⟨take_close (kk := 8 - r) HB.out HS.out hFb hq HP.out HC.out (by omega) hpq ha _ _ _ (take_val X u (8 - r) 0 q V a c p HX.out HU.out HP.out (by omega) (by omega) (by have := HC.out; omega) (by omega) hp8 _ ?_) ?_ ?_, ?_⟩
        · simp
        · omega
        · omega
        · simp [intOf] <;> omega
    · obtain rfl : k = 0 := by omega
      have h : c = n := by omega
      subst h
      go_wp2
      go_ret
      exact ⟨rfl, hR, ha, hb⟩
end Go.Proofs.YtcglfknkkeaegaaGreatDoor
namespace Go.Proofs.YtcglfknkkeaegaaGreatDoor
open Go.RowKit

set_option maxRecDepth 3000 in
theorem rerr_ok (b q V a : Nat) (F : Nat → Prop) (w : World) (hw : RSt w F b q V a) :
    Calls Tryz.prog 171 #[.pointer (some ⟨b, 0, none⟩)] w fun e w' => e = .returned (.int .i64 0) ∧ w = w' := by
  obtain ⟨v, hB, _⟩ := hw.ex
  have c0 : w.cell? ⟨b, 0, none⟩ = some (.bool true) := hB.cell 0
  have c1 : w.cell? ⟨b, 1, none⟩ = some (.int .i64 0) := hB.cell 1
  clear hB hw
  go_enter Tryz.func171, Tryz.ntmps171
  go_wp2
  go_ret
  exact ⟨rfl, rfl⟩

set_option maxRecDepth 3000 in
theorem rerr_err (b : Nat) (x : Int) (F : Nat → Prop) (w : World) (hw : RErr w F b x) :
    Calls Tryz.prog 171 #[.pointer (some ⟨b, 0, none⟩)] w fun e w' => e = .returned (.int .i64 x) ∧ w = w' := by
  obtain ⟨v, r, hB⟩ := hw.ex
  have c0 : w.cell? ⟨b, 0, none⟩ = some (.bool true) := hB.cell 0
  have c1 : w.cell? ⟨b, 1, none⟩ = some (.int .i64 x) := hB.cell 1
  clear hB hw
  go_enter Tryz.func171, Tryz.ntmps171
  go_wp2
  go_ret
  exact ⟨rfl, rfl⟩

set_option maxRecDepth 3000 in
theorem left_ok (b q V a : Nat) (F : Nat → Prop) (w : World) (hw : RSt w F b q V a) :
    Calls Tryz.prog 173 #[.pointer (some ⟨b, 0, none⟩)] w fun e w' => e = .returned (.int .i64 ((8 * q - a : Nat) : Int)) ∧ ∃ n, w' = w.drewN n := by
  obtain ⟨v, hB, hS⟩ := hw.ex
  obtain ⟨a0, cap, rfl, _, _⟩ := hS.form0
  have c2 : w.cell? ⟨b, 2, none⟩ = some (.slice a0 q cap) := hB.cell 2
  have c3 : w.cell? ⟨b, 3, none⟩ = some (.int .i64 a) := hB.cell 3
  have hle := hw.le
  have hsm := hw.sm
  have H := Lib.hid hw
  clear hB hw hS
  go_enter Tryz.func173, Tryz.ntmps173
  go_wp2_with (first
    | (go_at_call 171; refine (rerr_ok _ _ _ _ _ _ H.out).mono ?_; rintro e w1 ⟨rfl, rfl⟩))
  go_quiet (fail)
  go_wp2
  go_ret
  refine ⟨?_, _, rfl⟩
  rw [show ((8 * q - a : Nat) : Int) = (q : Int) * 8 - a from by omega]
  rfl

set_option maxRecDepth 3000 in
theorem rfail_any (b q V a : Nat) (x : Int) (hx : (x != 0) = true) (F : Nat → Prop) (w : World) (hw : RSt w F b q V a) (hb : Bd F w) :
    Calls Tryz.prog 172 #[.pointer (some ⟨b, 0, none⟩), .int .i64 x] w fun e w' => e = .returned (.tuple #[]) ∧ RErr w' F b x ∧ Adv F w F w' := by
  obtain ⟨v, hB, hS⟩ := hw.ex
  have hF := hw.inF
  have c1 : w.cell? ⟨b, 1, none⟩ = some (.int .i64 0) := hB.cell 1
  have c2 : w.cell? ⟨b, 2, none⟩ = some v := hB.cell 2
  have c3 : w.cell? ⟨b, 3, none⟩ = some (.int .i64 a) := hB.cell 3
  have f1 := hB.frozen 1
  have f2 := hB.frozen 2
  have f3 := hB.frozen 3
  have H := Lib.hid hB
  clear hB hS hw
  go_enter Tryz.func172, Tryz.ntmps172
  go_wp2
  go_end0
  refine ⟨rfl, ⟨⟨_, _, (((H.out.set_ 1 _).set_ 2 _).set_ 3 _)⟩, hx, hF, fun j hj => by have := hb j hj; simpa [World.setCell] using this⟩, ?_⟩
  exact (((Adv.refl F w).setCell (p := ⟨b, 1, none⟩) (.inl hF) _).setCell (p := ⟨b, 2, none⟩) (.inl hF) _).setCell (p := ⟨b, 3, none⟩) (.inl hF) _

theorem RSt.drewN {w : World} {F : Nat → Prop} {b q V a : Nat} (h : RSt w F b q V a) (n : Nat) : RSt (w.drewN n) F b q V a :=
  ⟨let ⟨r, h1, h2⟩ := h.ex; ⟨r, h1, ⟨h2.own, h2.inF, h2.bd⟩⟩, h.inF, h.le, h.sm⟩

set_option maxRecDepth 3000 in
set_option maxHeartbeats 400000 in
theorem get_ok (b q V a n : Nat) (F : Nat → Prop) (w : World) (hw : RSt w F b q V a) (hF : Bd F w) (hn : n ≤ 64) (hx : a + n ≤ 8 * q) :
    Calls Tryz.prog 143 #[.pointer (some ⟨b, 0, none⟩), .int .i64 n] w fun e w' => e = .returned (.int .u64 ((bitsAt q V a n : Nat) : Int)) ∧ RSt w' F b q V (a + n) ∧ Adv F w F w' ∧ Bd F w' := by
  have hn2 : (n : Int) ≤ ((8 * q - a : Nat) : Int) := by omega
  have H := Lib.hid hw
  clear hw
  go_enter Tryz.func143, Tryz.ntmps143
  go_wp2_with (first
    | (go_at_call 171; refine (rerr_ok _ _ _ _ _ _ H.out).mono ?_; rintro e w1 ⟨rfl, rfl⟩)
    | (go_at_call 123; refine (isWidth_yes n _ hn).mono ?_; rintro e w1 ⟨rfl, rfl⟩)
    | (go_at_call 173; refine (left_ok _ _ _ _ _ _ H.out).mono ?_; rintro e w1 ⟨rfl, nd, rfl⟩)
    | (go_at_call 174; refine (take_any _ _ _ _ n _ _ (H.out.drewN nd) hF hn hx).mono ?_; rintro e w2 ⟨rfl, h1, h2, h3⟩))
  go_ret
  exact ⟨rfl, h1, (Adv.of_drewN h2).same (fun k hk => by rw [hk]; exact H.out.inF), h3⟩

set_option maxRecDepth 3000 in
theorem get_short (b q V a n : Nat) (F : Nat → Prop) (w : World) (hw : RSt w F b q V a) (hF : Bd F w) (hn : n ≤ 64) (hx : 8 * q < a + n) :
    Calls Tryz.prog 143 #[.pointer (some ⟨b, 0, none⟩), .int .i64 n] w fun e w' => e = .returned (.int .u64 0) ∧ RErr w' F b 3 ∧ Adv F w F w' := by
  have hle := hw.le
  have hn2 : ((8 * q - a : Nat) : Int) < (n : Int) := by omega
  have H := Lib.hid hw
  clear hw
  go_enter Tryz.func143, Tryz.ntmps143
  go_wp2_with (first
    | (go_at_call 171; refine (rerr_ok _ _ _ _ _ _ H.out).mono ?_; rintro e w1 ⟨rfl, rfl⟩)
    | (go_at_call 123; refine (isWidth_yes n _ hn).mono ?_; rintro e w1 ⟨rfl, rfl⟩)
    | (go_at_call 173; refine (left_ok _ _ _ _ _ _ H.out).mono ?_; rintro e w1 ⟨rfl, nd, rfl⟩)
    | (go_at_call 172; refine (rfail_any _ _ _ _ _ (by decide) _ _ (H.out.drewN nd) hF).mono ?_; rintro e w1 ⟨rfl, h1, h2⟩))
  go_ret
  exact ⟨rfl, h1, ⟨h2.os, h2.tape, h2.output, h2.size, h2.block, h2.into⟩⟩

set_option maxRecDepth 3000 in
theorem get_err (b : Nat) (n x : Int) (F : Nat → Prop) (w : World) (hw : RErr w F b x) :
    Calls Tryz.prog 143 #[.pointer (some ⟨b, 0, none⟩), .int .i64 n] w fun e w' => e = .returned (.int .u64 0) ∧ w = w' := by
  have hx := hw.ne
  have H := Lib.hid hw
  clear hw
  go_enter Tryz.func143, Tryz.ntmps143
  go_wp2_with (first
    | (go_at_call 171; refine (rerr_err _ _ _ _ H.out).mono ?_; rintro e w1 ⟨rfl, rfl⟩))
  go_ret
  exact ⟨rfl, rfl⟩

theorem bitsAt_all (q V a : Nat) : bitsAt q V a (8 * q - a) = V % 2 ^ (8 * q - a) := by
  unfold bitsAt
  rw [Nat.sub_self, Nat.pow_zero, Nat.div_one]

/-- what End says of a reader without an error -/
def endOf (q V a : Nat) : Int := if 8 * q - a < 8 ∧ V % 2 ^ (8 * q - a) = 0 then 0 else 6

set_option maxRecDepth 3000 in
set_option maxHeartbeats 400000 in
theorem rend_ok (b q V a : Nat) (F : Nat → Prop) (w : World) (hw : RSt w F b q V a) (hF : Bd F w) :
    Calls Tryz.prog 144 #[.pointer (some ⟨b, 0, none⟩)] w fun e w' => e = .returned (.int .i64 (endOf q V a)) ∧ Below w.heap.size w w' := by
  obtain ⟨v, hB, hS⟩ := hw.ex
  obtain ⟨a0, cap, rfl, _, _⟩ := hS.form0
  have c0 : w.cell? ⟨b, 0, none⟩ = some (.bool true) := hB.cell 0
  have c1 : w.cell? ⟨b, 1, none⟩ = some (.int .i64 0) := hB.cell 1
  have c2 : w.cell? ⟨b, 2, none⟩ = some (.slice a0 q cap) := hB.cell 2
  have c3 : w.cell? ⟨b, 3, none⟩ = some (.int .i64 a) := hB.cell 3
  have H := Lib.hid hw
  have HB := Lib.hid hB
  have HS := Lib.hid hS
  clear hB hw hS
  have hle := H.out.le
  have hc : RSt (w.alloc (.cells #[.bool true, .int .i64 0, .slice a0 q cap, .int .i64 (a : Nat)] 231)) F b q V a :=
    ⟨⟨_, HB.out.alloc _, own_keep HS.out.own (fun k hk => Below.heap_alloc _ _ _ (hF k (HS.out.inF k hk))), HS.out.inF, fun k hk => by have := hF k hk; simp; omega⟩, H.out.inF, H.out.le, H.out.sm⟩
  have hd : RSt (w.alloc (.cells #[.bool true, .int .i64 0, .slice a0 q cap, .int .i64 (a : Nat)] 231)) (fun k => F k ∨ k = w.heap.size) w.heap.size q V a :=
    ⟨⟨_, Blk.new _ _ _, own_keep HS.out.own (fun k hk => Below.heap_alloc _ _ _ (hF k (HS.out.inF k hk))), fun k hk => .inl (HS.out.inF k hk), fun k hk => by
      rcases hk with h | h
      · have := hF k h; simp; omega
      · simp [h]⟩, .inr rfl, H.out.le, H.out.sm⟩
  have HC := Lib.hid hc
  have HD := Lib.hid hd
  clear hc hd
  have hfin : ∀ (n : Nat) (w2 : World), Adv (· = w.heap.size) ((w.alloc (.cells #[.bool true, .int .i64 0, .slice a0 q cap, .int .i64 (a : Nat)] 231)).drewN n) (· = w.heap.size) w2 → Below w.heap.size w w2 := fun n w2 h =>
    (Adv.of_drewN h).below ((Below.refl _ _).alloc (Nat.le_refl _) _) (fun k hk => by rw [hk]; exact Nat.le_refl _) (by simp)
  have HF := Lib.hid hfin
  clear hfin
  by_cases h8 : 8 * q - a < 8
  · have h8' : ((8 * q - a : Nat) : Int) < 8 := by omega
    by_cases h0 : V % 2 ^ (8 * q - a) = 0
    · have e0 : endOf q V a = 0 := by unfold endOf; rw [if_pos ⟨h8, h0⟩]
      rw [e0]
      have eb : bitsAt q V a (8 * q - a) = 0 := by rw [bitsAt_all]; exact h0
      have EB := Lib.hid eb
      clear eb e0 h0
      go_enter Tryz.func144, Tryz.ntmps144
      go_wp2_with (first
        | (go_at_call 171; refine (rerr_ok _ _ _ _ _ _ H.out).mono ?_; rintro e w1 ⟨rfl, rfl⟩)
        | (go_at_call 173; refine (left_ok _ _ _ _ _ _ HC.out).mono ?_; rintro e w1 ⟨rfl, nd, rfl⟩)
        | (go_at_call 174; refine (take_any _ _ _ _ (8 * q - a) _ _ (HD.out.drewN nd) (HD.out.ex.choose_spec.2.bd) (by omega) (by omega)).mono ?_; rintro e w2 ⟨rfl, h1, h2, h3⟩; rw [EB.out]))
      go_ret
      exact ⟨rfl, HF.out nd w2 h2⟩
    · have e0 : endOf q V a = 6 := by unfold endOf; rw [if_neg (fun h => h0 h.2)]
      rw [e0]
      have eb : (((bitsAt q V a (8 * q - a) : Nat) : Int) != 0) = true := by rw [bitsAt_all, bne_iff_ne]; omega
      clear e0 h0
      go_enter Tryz.func144, Tryz.ntmps144
      go_wp2_with (first
        | (go_at_call 171; refine (rerr_ok _ _ _ _ _ _ H.out).mono ?_; rintro e w1 ⟨rfl, rfl⟩)
        | (go_at_call 173; refine (left_ok _ _ _ _ _ _ HC.out).mono ?_; rintro e w1 ⟨rfl, nd, rfl⟩)
        | (go_at_call 174; refine (take_any _ _ _ _ (8 * q - a) _ _ (HD.out.drewN nd) (HD.out.ex.choose_spec.2.bd) (by omega) (by omega)).mono ?_; rintro e w2 ⟨rfl, h1, h2, h3⟩))
      go_ret
      exact ⟨rfl, HF.out nd w2 h2⟩
  · have h8' : (8 : Int) ≤ ((8 * q - a : Nat) : Int) := by omega
    have e0 : endOf q V a = 6 := by unfold endOf; rw [if_neg (fun h => h8 h.1)]
    rw [e0]
    clear e0
    go_enter Tryz.func144, Tryz.ntmps144
    go_wp2_with (first
      | (go_at_call 171; refine (rerr_ok _ _ _ _ _ _ H.out).mono ?_; rintro e w1 ⟨rfl, rfl⟩)
      | (go_at_call 173; refine (left_ok _ _ _ _ _ _ HC.out).mono ?_; rintro e w1 ⟨rfl, nd, rfl⟩))
    go_ret
    exact ⟨rfl, HF.out nd _ (Adv.refl _ _)⟩

set_option maxRecDepth 3000 in
theorem rend_err (b : Nat) (x : Int) (F : Nat → Prop) (w : World) (hw : RErr w F b x) :
    Calls Tryz.prog 144 #[.pointer (some ⟨b, 0, none⟩)] w fun e w' => e = .returned (.int .i64 x) ∧ w = w' := by
  have hx := hw.ne
  have H := Lib.hid hw
  clear hw
  go_enter Tryz.func144, Tryz.ntmps144
  go_wp2_with (first
    | (go_at_call 171; refine (rerr_err _ _ _ _ H.out).mono ?_; rintro e w1 ⟨rfl, rfl⟩))
  go_ret
  exact ⟨rfl, rfl⟩
end Go.Proofs.YtcglfknkkeaegaaGreatDoor
namespace Go.Proofs.YtcglfknkkeaegaaGreatDoor
open Go.RowKit

theorem get_int (b q V a : Nat) (n : Int) (F : Nat → Prop) (w : World) (hw : RSt w F b q V a) (hF : Bd F w) (hn0 : 0 ≤ n) (hn : n ≤ 64) (hx : a + n.toNat ≤ 8 * q) :
    Calls Tryz.prog 143 #[.pointer (some ⟨b, 0, none⟩), .int .i64 n] w fun e w' => e = .returned (.int .u64 ((bitsAt q V a n.toNat : Nat) : Int)) ∧ RSt w' F b q V (a + n.toNat) ∧ Adv F w F w' ∧ Bd F w' := by
  obtain ⟨k, rfl⟩ := Int.eq_ofNat_of_zero_le hn0
  exact get_ok b q V a k F w hw hF (by omega) hx
end Go.Proofs.YtcglfknkkeaegaaGreatDoor
namespace Go.Proofs.YtcglfknkkeaegaaGreatDoor
open Go.RowKit

theorem addr_none (b o j : Nat) : (⟨b, o, none⟩ : Addr).add j = ⟨b, o + j, none⟩ := by unfold Addr.add; split <;> simp_all

/-- the byte that stands at bit p -/
def byteAt (q V p : Nat) : UInt8 := UInt8.ofNat (bitsAt q V p 8)
theorem byteAt_toNat (q V p : Nat) : (byteAt q V p).toNat = bitsAt q V p 8 := by
  unfold byteAt
  rw [UInt8.toNat_ofNat']
  exact Nat.mod_eq_of_lt (bitsAt_lt q V p 8)
def bytesAt (q V p n : Nat) : List UInt8 := (List.range n).map fun i => byteAt q V (p + 8 * i)
def half (q V p n k : Nat) : List Value := (bytesAt q V p k).map (fun c => .int .u8 (c.toNat : Int)) ++ List.replicate (n - k) (.int .u8 0)
theorem bytesAt_length (q V p n : Nat) : (bytesAt q V p n).length = n := by simp [bytesAt]
theorem half_zero (q V p n : Nat) : half q V p n 0 = List.replicate n (.int .u8 0) := by simp [half, bytesAt]
theorem half_at (q V p n k : Nat) (hk : k < n) : (half q V p n k)[k]? = some (.int .u8 0) := by
  unfold half
  rw [List.getElem?_append_right (by simp [bytesAt]), List.getElem?_replicate, if_pos (by simp [bytesAt]; omega)]
theorem half_set (q V p n k : Nat) (hk : k < n) : (half q V p n k).set k (.int .u8 ((bitsAt q V (p + 8 * k) 8 : Nat) : Int)) = half q V p n (k + 1) := by
  unfold half
  rw [List.set_append_right _ _ (by simp [bytesAt])]
  have e1 : bytesAt q V p (k + 1) = bytesAt q V p k ++ [byteAt q V (p + 8 * k)] := by simp [bytesAt, List.range_succ]
  have e2 : k - ((bytesAt q V p k).map (fun c => Value.int .u8 (c.toNat : Int))).length = 0 := by simp [bytesAt]
  rw [e2, e1, show n - k = (n - (k + 1)) + 1 from by omega, List.replicate_succ, List.set_cons_zero]
  simp [byteAt_toNat]

theorem make_bytes (n : Nat) (hn : n ≤ 1000000) (w : World) : (Instr.makeSlice 118 (.int .i64 (n : Int)) (.int .i64 (n : Int))).run Tryz.prog w = .ok (.slice (some ⟨w.heap.size, 0, none⟩) n n) (w.alloc (.cells (madeCells #[.int .u8 0] n) 5)) := by
  obtain ⟨i0, hi, hz0, hz1, hz2⟩ := info_parts Tryz.infoU8
  have hr := run_make (P := Tryz.prog) w 118 5 i0 (.int .u8 0) Tryz.underlying118 hi hz0 .i64 .i64 n n (by omega) (by omega) (by rw [hz2]; omega) (by omega)
  simp only [Int.toNat_natCast, hz1, Nat.mul_one] at hr
  exact hr

theorem half_made (q V p n : Nat) : (half q V p n 0).toArray = madeCells #[.int .u8 0] n := by
  rw [half_zero, ← toList_madeCells_one]

def rtextRel (w : World) (b q V p n g : Nat) (F : Nat → Prop) (t : Value) (wr : World) : Prop :=
  ∃ k, t = .int .i64 ((k : Nat) : Int) ∧ k ≤ n ∧ RSt wr F b q V (p + 8 * k) ∧ Bd F wr ∧ Blk wr g 5 (half q V p n k).toArray ∧ Adv F w F wr

theorem get_int' (b q V a : Nat) (n : Int) (F : Nat → Prop) (w : World) (hw : RSt w F b q V a) (hF : Bd F w) (hn0 : 0 ≤ n) (hn : n ≤ 64) (hx : a + n.toNat ≤ 8 * q) :
    Calls Tryz.prog 174 #[.pointer (some ⟨b, 0, none⟩), .int .i64 n] w fun e w' => e = .returned (.int .u64 ((bitsAt q V a n.toNat : Nat) : Int)) ∧ RSt w' F b q V (a + n.toNat) ∧ Adv (· = b) w (· = b) w' ∧ Bd F w' := by
  obtain ⟨k, rfl⟩ := Int.eq_ofNat_of_zero_le hn0
  exact take_any b q V a k F w hw hF (by omega) hx

theorem RSt.alloc {w : World} {F : Nat → Prop} {b q V a : Nat} (h : RSt w F b q V a) (hb : Bd F w) (o : Obj) : RSt (w.alloc o) F b q V a := by
  obtain ⟨v, h1, h2⟩ := h.ex
  exact ⟨⟨v, h1.alloc _, own_keep h2.own (fun k hk => Below.heap_alloc _ _ _ (hb k (h2.inF k hk))), h2.inF, fun k hk => by have := hb k hk; simp; omega⟩, h.inF, h.le, h.sm⟩

theorem RSt.setCell {w : World} {F : Nat → Prop} {b q V a : Nat} (h : RSt w F b q V a) (hb : Bd F w) {p : Addr} (hp : ¬ F p.block) (u : Value) : RSt (w.setCell p u) F b q V a := by
  obtain ⟨v, h1, h2⟩ := h.ex
  exact ⟨⟨v, h1.far (fun e => hp (by rw [← e]; exact h.inF)) _, own_keep h2.own (fun k hk => Below.heap_setCell _ _ _ _ (fun e => hp (by rw [← e]; exact h2.inF k hk))), h2.inF, fun k hk => by have := hb k hk; simpa [World.setCell] using this⟩, h.inF, h.le, h.sm⟩

set_option maxRecDepth 3000 in
set_option maxHeartbeats 1000000 in
theorem rtext_ok (b q V a n : Nat) (F : Nat → Prop) (w : World) (hw : RSt w F b q V a) (hF : Bd F w) (hn : n = bitsAt q V a 16) (hx : a + 16 + 8 * n ≤ 8 * q) :
    Calls Tryz.prog 151 #[.pointer (some ⟨b, 0, none⟩)] w fun e w' => e = .returned (.string ⟨(bytesAt q V (a + 16) n).toArray⟩) ∧ RSt w' F b q V (a + 16 + 8 * n) ∧ Adv F w F w' ∧ Bd F w' := by
  have hn16 : n < 65536 := by rw [hn]; exact bitsAt_lt q V a 16
  have hmk := make_bytes n (by omega)
  have hleft : (n : Int) * 8 ≤ ((8 * q - (a + 16) : Nat) : Int) := by omega
  have H := Lib.hid hw
  have HN := Lib.hid hn
  clear hw hn
  go_enter Tryz.func151, Tryz.ntmps151
  go_wp2_with (first
    | (go_at_call 143; refine (get_int _ _ _ _ _ _ _ H.out hF (by decide) (by decide) (by simp; omega)).mono ?_; rintro e w1 ⟨rfl, h1, a1, b1⟩; rw [show bitsAt q V a (16 : Int).toNat = n from HN.out.symm])
    | (go_at_call 171; refine (rerr_ok _ _ _ _ _ _ h1).mono ?_; rintro e w2 ⟨rfl, rfl⟩)
    | (go_at_call 173; refine (left_ok _ _ _ _ _ _ h1).mono ?_; rintro e w3 ⟨rfl, nd, rfl⟩))
  have hgF : ¬ F w1.heap.size := fun h => Nat.lt_irrefl _ (b1 _ h)
  have hbg : b ≠ w1.heap.size := fun e => hgF (by rw [← e]; exact h1.inF)
  have hgb : w1.heap.size ≠ b := hbg.symm
  have h0 : rtextRel w b q V (a + 16) n w1.heap.size F (.int .i64 0) ((w1.drewN nd).alloc (.cells (madeCells #[.int .u8 0] n) 5)) :=
    ⟨0, rfl, Nat.zero_le _, (h1.drewN nd).alloc (w := w1.drewN nd) b1 _, fun k hk => by have := b1 k hk; simp; omega, by rw [half_made]; exact Blk.new (w1.drewN nd) _ _, (a1.drewN nd).alloc _⟩
  have H0 := Lib.hid h0
  obtain ⟨g, hg⟩ : ∃ g, g = w1.heap.size := ⟨_, rfl⟩
  have hgw := a1.size
  rw [← hg] at hgF hbg hgb H0 hgw
  rw [← hg]
  clear h0 h1 a1 b1 hg
  go_loopw [22] (rtextRel w b q V (a + 16) n g F) (fun t _ => n - (intOf t).toNat)
  case atStart => exact H0.out
  case round =>
    obtain ⟨k, rfl, hk, hR, hb, hB, hA⟩ := hrel
    have HR := Lib.hid hR
    have HA := Lib.hid hA
    have HB := Lib.hid hB
    clear hR hA hB
    by_cases hlt : k < n
    · have hbit : ((bitsAt q V (a + 16 + 8 * k) 8 : Nat) : Int) < 256 := by have := bitsAt_lt q V (a + 16 + 8 * k) 8; omega
      go_wp2_with (first
        | (go_at_call 174; refine (get_int' _ _ _ _ _ _ _ HR.out hb (by decide) (by decide) (by simp; omega)).mono ?_; rintro e w2 ⟨rfl, h2, a2, b2⟩; have hB2 : Blk w2 g 5 (half q V (a + 16) n k).toArray := HB.out.keep (a2.block g HB.out.lt hgb); have hc2 : w2.cell? ⟨g, k, none⟩ = some (.int .u8 0) := (by rw [hB2.cell]; simpa using half_at q V (a + 16) n k hlt); have hf2 := hB2.frozen k))
      refine ⟨⟨k + 1, by simp, by omega, (RSt.setCell h2 b2 hgF _), fun i hi => by have := b2 i hi; simpa [World.setCell] using this, ?_, ?_⟩, by simp [intOf]; omega⟩
      · rw [← half_set q V (a + 16) n k hlt]
        have h := hB2.set_ k (.int .u8 ((bitsAt q V (a + 16 + 8 * k) 8 : Nat) : Int))
        simpa using h
      · exact (HA.out.trans (a2.same (fun i hi => by rw [hi]; exact HR.out.inF))).setCell (p := ⟨g, k, none⟩) (.inr hgw) _
    · obtain rfl : k = n := by omega
      have hcv := run_convert_bytes_back (P := Tryz.prog) wr 118 9 5 ⟨g, 0, none⟩ k (bytesAt q V (a + 16) k) Tryz.underlying118 Tryz.underlying5 Tryz.underlying9 (fun j hj => by
        rw [addr_none, Nat.zero_add, HB.out.cell]
        simp [half, List.getElem?_eq_getElem hj])
      rw [bytesAt_length] at hcv
      go_wp2
      go_ret
      exact ⟨rfl, HR.out, HA.out, hb⟩

theorem get_short_int (b q V a : Nat) (n : Int) (F : Nat → Prop) (w : World) (hw : RSt w F b q V a) (hF : Bd F w) (hn0 : 0 ≤ n) (hn : n ≤ 64) (hx : 8 * q < a + n.toNat) :
    Calls Tryz.prog 143 #[.pointer (some ⟨b, 0, none⟩), .int .i64 n] w fun e w' => e = .returned (.int .u64 0) ∧ RErr w' F b 3 ∧ Adv F w F w' := by
  obtain ⟨k, rfl⟩ := Int.eq_ofNat_of_zero_le hn0
  exact get_short b q V a k F w hw hF (by omega) hx

set_option maxRecDepth 3000 in
theorem rtext_short (b q V a : Nat) (F : Nat → Prop) (w : World) (hw : RSt w F b q V a) (hF : Bd F w) (hx : 8 * q < a + 16 ∨ 8 * q < a + 16 + 8 * bitsAt q V a 16) :
    Calls Tryz.prog 151 #[.pointer (some ⟨b, 0, none⟩)] w fun e w' => e = .returned (.string ⟨#[]⟩) ∧ RErr w' F b 3 ∧ Adv F w F w' := by
  have H := Lib.hid hw
  clear hw
  by_cases h16 : 8 * q < a + 16
  · clear hx
    go_enter Tryz.func151, Tryz.ntmps151
    go_wp2_with (first
      | (go_at_call 143; refine (get_short_int _ _ _ _ _ _ _ H.out hF (by decide) (by decide) (by simp; omega)).mono ?_; rintro e w1 ⟨rfl, h1, a1⟩)
      | (go_at_call 171; refine (rerr_err _ _ _ _ h1).mono ?_; rintro e w1 ⟨rfl, rfl⟩))
    go_ret
    exact ⟨rfl, h1, a1⟩
  · obtain ⟨n, hn⟩ : ∃ n, n = bitsAt q V a 16 := ⟨_, rfl⟩
    have hn16 : n < 65536 := by rw [hn]; exact bitsAt_lt q V a 16
    rw [← hn] at hx
    have hleft : ((8 * q - (a + 16) : Nat) : Int) < (n : Int) * 8 := by omega
    have HN := Lib.hid hn
    clear hn hx
    go_enter Tryz.func151, Tryz.ntmps151
    go_wp2_with (first
      | (go_at_call 143; refine (get_int _ _ _ _ _ _ _ H.out hF (by decide) (by decide) (by simp; omega)).mono ?_; rintro e w1 ⟨rfl, h1, a1, b1⟩; rw [show bitsAt q V a (16 : Int).toNat = n from HN.out.symm])
      | (go_at_call 171; refine (rerr_ok _ _ _ _ _ _ h1).mono ?_; rintro e w2 ⟨rfl, rfl⟩)
      | (go_at_call 173; refine (left_ok _ _ _ _ _ _ h1).mono ?_; rintro e w3 ⟨rfl, nd, rfl⟩)
      | (go_at_call 172; refine (rfail_any _ _ _ _ _ (by decide) _ _ (h1.drewN nd) b1).mono ?_; rintro e w4 ⟨rfl, h4, a4⟩))
    go_ret
    exact ⟨rfl, h4, a1.trans (Adv.of_drewN a4)⟩
end Go.Proofs.YtcglfknkkeaegaaGreatDoor
namespace Go.Proofs.YtcglfknkkeaegaaGreatDoor
open Go.RowKit
end Go.Proofs.YtcglfknkkeaegaaGreatDoor
namespace Go.Proofs.YtcglfknkkeaegaaGreatDoor
open Go.RowKit

/-- bytes as a number -/
def byN (l : List Nat) : Nat := l.foldl (fun a x => a * 256 + x) 0
theorem byN_snoc (l : List Nat) (x : Nat) : byN (l ++ [x]) = byN l * 256 + x := by simp [byN]
theorem be_byN (l : List Nat) (h : ∀ x ∈ l, x < 256) : be l.length (byN l) = l := by
  have H : ∀ n (l : List Nat), l.length = n → (∀ x ∈ l, x < 256) → be n (byN l) = l := by
    intro n
    induction n with
    | zero => intro l hl _; rw [List.eq_nil_of_length_eq_zero hl]; rfl
    | succ n ih =>
      intro l hl h
      have hne : l ≠ [] := by intro e; simp [e] at hl
      have e := List.dropLast_concat_getLast hne
      have hx := h (l.getLast hne) (List.getLast_mem hne)
      have ih' := ih l.dropLast (by simp; omega) (fun x hx => h x ((List.dropLast_sublist l).subset hx))
      rw [← e, byN_snoc]
      show be n ((byN l.dropLast * 256 + l.getLast hne) / 256) ++ [(byN l.dropLast * 256 + l.getLast hne) % 256] = _
      rw [show (byN l.dropLast * 256 + l.getLast hne) / 256 = byN l.dropLast from by omega, show (byN l.dropLast * 256 + l.getLast hne) % 256 = l.getLast hne from by omega, ih']
  exact H _ l rfl h

/-- what is left of V's 8 q bits behind the first a -/
def rest (q V a : Nat) : Nat := V % 2 ^ (8 * q - a)
end Go.Proofs.YtcglfknkkeaegaaGreatDoor
namespace Go.Proofs.YtcglfknkkeaegaaGreatDoor
open Go.ChangeShapes Go.WideShapes Go.ChangeAt Go.RowKit

set_option maxRecDepth 3000 in
theorem within_any (x a b : Int) (w : World) (hab : a ≤ b) :
    Calls Tryz.prog 7 #[.int .i64 x, .int .i64 a, .int .i64 b] w fun e w' => ∃ y : Int, e = .returned (.int .i64 y) ∧ a ≤ y ∧ y ≤ b ∧ (a ≤ x → x ≤ b → y = x) ∧ w = w' := by
  by_cases h1 : x < a
  · go_enter Tryz.func7, Tryz.ntmps7
    go_wp2
    go_ret
    exact ⟨a, rfl, by omega, hab, by omega, rfl⟩
  · by_cases h2 : b < x
    · go_enter Tryz.func7, Tryz.ntmps7
      go_wp2
      go_ret
      exact ⟨b, rfl, hab, by omega, by omega, rfl⟩
    · go_enter Tryz.func7, Tryz.ntmps7
      go_wp2
      go_ret
      exact ⟨x, rfl, by omega, by omega, by simp, rfl⟩

/-- an own row of bytes, one of them stored anew -/
theorem Sl.set8 {w : World} {F : Nat → Prop} {g c n : Nat} {l : List Nat} (h : Sl w F 5 1 (.slice (some ⟨g, 0, none⟩) n c) n (l.map u8)) (k y : Nat) (v : Int) (hv : v = (y : Int)) :
    Sl (w.setCell ⟨g, k, none⟩ (.int .u8 v)) F 5 1 (.slice (some ⟨g, 0, none⟩) n c) n ((l.set k y).map u8) := by
  have h1 := (h.own.stored k (.int .u8 v)).1
  refine ⟨?_, h.inF, fun j hj => by have := h.bd j hj; simpa [World.setCell] using this⟩
  rw [List.map_set, show u8 y = .int .u8 v from by rw [hv]; rfl]
  exact h1
theorem Sl.at8 {w : World} {F : Nat → Prop} {g c n k : Nat} {l : List Nat} (h : Sl w F 5 1 (.slice (some ⟨g, 0, none⟩) n c) n (l.map u8)) (hk : k < n) (hl : k < l.length) : w.cell? ⟨g, k, none⟩ = some (.int .u8 (l[k] : Int)) := by
  rw [h.own.cellAt k (by omega), List.getElem?_map, List.getElem?_eq_getElem hl]; rfl
end Go.Proofs.YtcglfknkkeaegaaGreatDoor
namespace Go.Proofs.YtcglfknkkeaegaaGreatDoor
open Go.RowKit
end Go.Proofs.YtcglfknkkeaegaaGreatDoor
namespace Go.Proofs.YtcglfknkkeaegaaGreatDoor
open Go.ChangeShapes Go.WideShapes Go.ChangeAt Go.RowKit

structure Ino where
  k : Int
  g : Int
  v : Nat
  a : Nat → Int
/-- a number as one of 64 bits -/
def u64n (z : Int) : Nat := (z % 18446744073709551616).toNat
theorem u64n_lt (z : Int) : u64n z < 18446744073709551616 := by unfold u64n; omega
theorem wrap_u64n (z : Int) : IntKind.u64.wrap z = ((u64n z : Nat) : Int) := by rw [IntKind.wrap_u64]; unfold u64n; omega
def okJ (x : Ino) : Nat → Prop
  | 0 => ((True ∧ u64n x.k < 2 ^ 2) ∧ u64n x.g < 2 ^ 31) ∧ x.v < 2 ^ 40
  | j + 1 => okJ x j ∧ u64n (x.a j) < 2 ^ 12
instance okJ_dec (x : Ino) : ∀ j, Decidable (okJ x j)
  | 0 => by unfold okJ; exact inferInstance
  | j + 1 => by unfold okJ; exact @instDecidableAnd _ _ (okJ_dec x j) _
def bareI (x : Ino) : Prop := x.v = 0 ∧ ∀ j, j < 8 → x.a j = 0
instance (x : Ino) : Decidable (bareI x) := by unfold bareI; exact inferInstance
def kindI (x : Ino) : Prop := if x.k = 0 then bareI x else x.k = 1 ∨ x.k = 2
instance (x : Ino) : Decidable (kindI x) := by unfold kindI; exact inferInstance
def okI (x : Ino) : Prop := kindI x ∧ okJ x 8
instance (x : Ino) : Decidable (okI x) := by unfold okI; exact inferInstance
theorem pw256 (a b c : Nat) (h : a + 8 * b = c) : 2 ^ a * 256 ^ b = 2 ^ c := by
  rw [show (256 : Nat) ^ b = 2 ^ (8 * b) from (Nat.pow_mul 2 8 b).symm, ← Nat.pow_add, h]
theorem pw256' (a b c : Nat) (h : 8 * b = a + c) : 256 ^ b = 2 ^ a * 2 ^ c := by
  rw [show (256 : Nat) ^ b = 2 ^ (8 * b) from (Nat.pow_mul 2 8 b).symm, h, Nat.pow_add]
theorem be_noughts (q V : Nat) : ∀ k, be (q + k) (V * 256 ^ k) = be q V ++ List.replicate k 0
  | 0 => by simp
  | k + 1 => by
    rw [show q + (k + 1) = (q + k) + 1 from rfl, Nat.pow_succ, ← Nat.mul_assoc, be_snoc, be_noughts q V k, List.append_assoc, List.replicate_succ']
theorem shift_any (N s t : Nat) : N * 2 ^ s / 2 ^ (s + t) = N / 2 ^ t := by
  rw [Nat.pow_add, ← Nat.div_div_eq_div_mul, Nat.mul_div_cancel _ (Nat.two_pow_pos _)]
theorem byN_be : ∀ (q V : Nat), V < 256 ^ q → byN (be q V) = V
  | 0, V, h => by simp at h; subst h; rfl
  | q + 1, V, h => by
    rw [be, byN_snoc, byN_be q (V / 256) (by rw [Nat.pow_succ] at h; exact Nat.div_lt_of_lt_mul (by rwa [Nat.mul_comm] at h)), Nat.div_add_mod']
end Go.Proofs.YtcglfknkkeaegaaGreatDoor
namespace Go.Proofs.YtcglfknkkeaegaaGreatDoor
open Go.RowKit

set_option maxRecDepth 3000 in
theorem short_any (s : ByteArray) (n : Nat) (w : World) (hn : n ≤ 1000000000) (_hs : s.size ≤ maxLen) :
    Calls Tryz.prog 32 #[.string s, .int .i64 n] w fun e w' => e = .returned (.string (if n < s.size then s.extract 0 n else s)) ∧ w = w' := by
  by_cases h : n < s.size
  · rw [if_pos h]
    have h1 : (n : Int) < (s.size : Int) := by omega
    go_enter Tryz.func32, Tryz.ntmps32
    go_wp2
    go_ret
    exact ⟨rfl, rfl⟩
  · rw [if_neg h]
    have h1 : (s.size : Int) ≤ (n : Int) := by omega
    go_enter Tryz.func32, Tryz.ntmps32
    go_wp2
    go_ret
    exact ⟨rfl, rfl⟩
end Go.Proofs.YtcglfknkkeaegaaGreatDoor
namespace Go.Proofs.YtcglfknkkeaegaaGreatDoor
open Go.RowKit
end Go.Proofs.YtcglfknkkeaegaaGreatDoor
namespace Go.Proofs.YtcglfknkkeaegaaGreatDoor
open Go.RowKit

theorem lay_int (b N m : Nat) (x n : Int) (F : Nat → Prop) (w : World) (hw : WSt w F b N m) (hF : Bd F w) (hn0 : 0 ≤ n) (hn : n ≤ 64) (hx0 : 0 ≤ x) (hx : x.toNat < 2 ^ n.toNat) (hm : m + n.toNat ≤ 1000000000) :
    Calls Tryz.prog 125 #[.pointer (some ⟨b, 0, none⟩), .int .u64 x, .int .i64 n] w fun e w' => e = .returned (.tuple #[]) ∧
      ∃ F', WSt w' F' b (N * 2 ^ n.toNat + x.toNat) (m + n.toNat) ∧ Adv F w F' w' ∧ Bd F' w' := by
  obtain ⟨k, rfl⟩ := Int.eq_ofNat_of_zero_le hn0
  obtain ⟨y, rfl⟩ := Int.eq_ofNat_of_zero_le hx0
  exact lay_any b N m y k F w hw hF (by omega) hx hm

/-- the bits of a text's bytes behind those of N -/
def tx (N : Nat) (l : List UInt8) : Nat := l.foldl (fun a c => a * 256 + c.toNat) N
theorem tx_snoc (N : Nat) (l : List UInt8) (c : UInt8) : tx N (l ++ [c]) = tx N l * 256 + c.toNat := by simp [tx]
theorem take_snoc (s : ByteArray) (k : Nat) (h : k < s.size) : s.data.toList.take (k + 1) = s.data.toList.take k ++ [s[k]] := by
  rw [List.take_succ_eq_append_getElem (by simpa using h)]; rfl

def TextRel (w : World) (F : Nat → Prop) (b N m : Nat) (s : ByteArray) (t : Value) (wr : World) : Prop :=
  ∃ k F', t = .int .i64 ((k : Nat) : Int) ∧ k ≤ s.size ∧ WSt wr F' b (tx (N * 65536 + s.size) (s.data.toList.take k)) (m + 16 + 8 * k) ∧ Adv F w F' wr ∧ Bd F' wr

set_option maxRecDepth 3000 in
set_option maxHeartbeats 400000 in
theorem text_ok (b N m : Nat) (s : ByteArray) (F : Nat → Prop) (w : World) (hw : WSt w F b N m) (hF : Bd F w) (hs : s.size ≤ 65535) (hm : m + 16 + 8 * s.size ≤ 1000000000) :
    Calls Tryz.prog 93 #[.pointer (some ⟨b, 0, none⟩), .string s] w fun e w' => e = .returned (.pointer (some ⟨b, 0, none⟩)) ∧
      ∃ F', WSt w' F' b (tx (N * 65536 + s.size) s.data.toList) (m + 16 + 8 * s.size) ∧ Adv F w F' w' ∧ Bd F' w' := by
  obtain ⟨v, hB, hS⟩ := hw.ex
  have c0 : w.cell? ⟨b, 0, none⟩ = some (.bool true) := hB.cell 0
  have c1 : w.cell? ⟨b, 1, none⟩ = some (.int .i64 0) := hB.cell 1
  have HW := Lib.hid hw
  clear hB hS hw
  go_enter Tryz.func93, Tryz.ntmps93
  go_wp2_with (first
    | (go_at_call 125; refine (lay_int b N m _ _ F _ HW.out hF (by omega) (by omega) (by omega) (by simp; omega) (by simp; omega)).mono ?_; rintro e w1 ⟨rfl, F1, hw1, ha1, hb1⟩))
  have h0 : WSt w1 F1 b (tx (N * 65536 + s.size) (s.data.toList.take 0)) (m + 16 + 8 * 0) := by simpa [tx] using hw1
  clear hw1
  have H0 := Lib.hid h0
  clear h0
  go_loopw [33] (TextRel w F b N m s) (fun t _ => s.size - (intOf t).toNat)
  case atStart => exact ⟨0, F1, rfl, by omega, H0.out, ha1, hb1⟩
  case round =>
    obtain ⟨k, F', rfl, hk, hwk, ha, hb⟩ := hrel
    have HK := Lib.hid hwk
    clear hwk
    by_cases hlt : k < s.size
    · have hu : s[k].toNat < 256 := s[k].toNat_lt
      go_wp2_with (first
        | (go_at_call 125; refine (lay_int b _ _ _ _ F' _ HK.out hb (by omega) (by omega) (by omega) (by simp; omega) (by simp; omega)).mono ?_; rintro e w2 ⟨rfl, F2, hw2, ha2, hb2⟩))
      have H2 := Lib.hid hw2
      clear hw2
      refine ⟨⟨k + 1, F2, by simp, by omega, ?_, ha.trans ha2, hb2⟩, by simp [intOf]; omega⟩
      rw [take_snoc s k hlt, tx_snoc]
      exact H2.out
    · obtain rfl : k = s.size := by omega
      go_wp2
      go_ret
      refine ⟨rfl, F', ?_, ha, hb⟩
      have h := HK.out
      rwa [List.take_of_length_le (by simp)] at h

set_option maxRecDepth 3000 in
theorem text_err (b : Nat) (s : ByteArray) (F : Nat → Prop) (w : World) (hw : WErr w F b) :
    Calls Tryz.prog 93 #[.pointer (some ⟨b, 0, none⟩), .string s] w fun e w' => e = .returned (.pointer (some ⟨b, 0, none⟩)) ∧ w = w' := by
  obtain ⟨v, r, hB⟩ := hw.ex
  have c0 : w.cell? ⟨b, 0, none⟩ = some (.bool true) := hB.cell 0
  have c1 : w.cell? ⟨b, 1, none⟩ = some (.int .i64 2) := hB.cell 1
  clear hB hw
  go_enter Tryz.func93, Tryz.ntmps93
  go_wp2
  go_ret
  exact ⟨rfl, rfl⟩
end Go.Proofs.YtcglfknkkeaegaaGreatDoor
namespace Go.Proofs.YtcglfknkkeaegaaGreatDoor

theorem snocInd {α : Type} {motive : List α → Prop} (nil : motive []) (append_singleton : ∀ l a, motive l → motive (l ++ [a])) (l : List α) : motive l := by
  have h : ∀ m : List α, motive m.reverse := by
    intro m
    induction m with
    | nil => exact nil
    | cons a m ih => rw [List.reverse_cons]; exact append_singleton _ _ ih
  have := h l.reverse
  rwa [List.reverse_reverse] at this

theorem tx_eq (N : Nat) (l : List UInt8) : tx N l = N * 2 ^ (8 * l.length) + tx 0 l := by
  induction l using snocInd generalizing N with
  | nil => simp [tx]
  | append_singleton l c ih =>
    rw [tx_snoc, tx_snoc, ih, List.length_append, List.length_singleton, Nat.mul_add, Nat.pow_add, Nat.add_mul, Nat.mul_assoc, Nat.add_assoc]
theorem tx_lt (l : List UInt8) : tx 0 l < 2 ^ (8 * l.length) := by
  induction l using snocInd with
  | nil => simp [tx]
  | append_singleton l c ih =>
    rw [tx_snoc, List.length_append, List.length_singleton, Nat.mul_add, Nat.pow_add]
    have := c.toNat_lt
    omega
theorem tx_put (N : Nat) (s : ByteArray) : tx (N * 65536 + s.size) s.data.toList = N * 2 ^ (16 + 8 * s.size) + tx s.size s.data.toList := by
  have hl : s.data.toList.length = s.size := by simp
  rw [tx_eq, tx_eq s.size, hl, Nat.pow_add, Nat.add_mul, Nat.mul_assoc, Nat.add_assoc]
theorem tx_size_lt (s : ByteArray) (h : s.size ≤ 65535) : tx s.size s.data.toList < 2 ^ (16 + 8 * s.size) := by
  have hl : s.data.toList.length = s.size := by simp
  have h1 := tx_lt s.data.toList
  rw [tx_eq, hl, Nat.pow_add]
  rw [hl] at h1
  calc s.size * 2 ^ (8 * s.size) + tx 0 s.data.toList < s.size * 2 ^ (8 * s.size) + 2 ^ (8 * s.size) := by omega
    _ = (s.size + 1) * 2 ^ (8 * s.size) := by rw [Nat.add_mul, Nat.one_mul]
    _ ≤ 2 ^ 16 * 2 ^ (8 * s.size) := Nat.mul_le_mul_right _ (by omega)

theorem bitsAt_mid (N v k r m pd q V a T : Nat) (hr : r < 2 ^ m) (hv : v < 2 ^ k) (hT : 8 * q = T + pd) (ha : T = a + k + m) (hV : V = ((N * 2 ^ k + v) * 2 ^ m + r) * 2 ^ pd) : bitsAt q V a k = v := by
  unfold bitsAt
  rw [show 8 * q - a - k = m + pd from by omega, hV, Nat.pow_add, Nat.mul_comm (2 ^ m) (2 ^ pd), ← Nat.div_div_eq_div_mul, Nat.mul_div_cancel _ (Nat.two_pow_pos _), Nat.add_comm, Nat.add_mul_div_right _ _ (Nat.two_pow_pos _), Nat.div_eq_of_lt hr, Nat.zero_add, Nat.add_comm, Nat.add_mul_mod_self_right, Nat.mod_eq_of_lt hv]

/-- of a text's bits the first 16 are its length, the others its bytes -/
theorem text_at (q V a : Nat) (s : ByteArray) (hb : bitsAt q V a (16 + 8 * s.size) = tx s.size s.data.toList) (hle : a + (16 + 8 * s.size) ≤ 8 * q) :
    bitsAt q V a 16 = s.size ∧ bitsAt q V (a + 16) (8 * s.size) = tx 0 s.data.toList := by
  have hl : s.data.toList.length = s.size := by simp
  have h1 := bitsAt_split q V a 16 (8 * s.size) (by omega)
  rw [hb, tx_eq, hl] at h1
  have h2 := tx_lt s.data.toList
  rw [hl] at h2
  have h3 := bitsAt_lt q V (a + 16) (8 * s.size)
  generalize 2 ^ (8 * s.size) = P at *
  generalize bitsAt q V a 16 = A at *
  generalize bitsAt q V (a + 16) (8 * s.size) = B at *
  generalize tx 0 s.data.toList = C at *
  have e1 : (s.size * P + C) / P = s.size := by rw [Nat.add_comm, Nat.add_mul_div_right _ _ (by omega), Nat.div_eq_of_lt h2, Nat.zero_add]
  have e2 : (A * P + B) / P = A := by rw [Nat.add_comm, Nat.add_mul_div_right _ _ (by omega), Nat.div_eq_of_lt h3, Nat.zero_add]
  have e3 : A = s.size := by rw [← e1, ← e2, h1]
  subst e3
  exact ⟨rfl, by omega⟩

theorem bytes_at (q V p : Nat) (l : List UInt8) (hb : bitsAt q V p (8 * l.length) = tx 0 l) (hle : p + 8 * l.length ≤ 8 * q) : bytesAt q V p l.length = l := by
  induction l using snocInd with
  | nil => simp [bytesAt]
  | append_singleton l c ih =>
    rw [List.length_append, List.length_singleton] at hb hle ⊢
    rw [Nat.mul_add, Nat.mul_one, bitsAt_split q V p (8 * l.length) 8 (by omega), tx_snoc] at hb
    have h1 := bitsAt_lt q V (p + 8 * l.length) 8
    have h2 := c.toNat_lt
    have e1 : bitsAt q V p (8 * l.length) = tx 0 l := by omega
    have e2 : bitsAt q V (p + 8 * l.length) 8 = c.toNat := by omega
    have e3 : bytesAt q V p (l.length + 1) = bytesAt q V p l.length ++ [byteAt q V (p + 8 * l.length)] := by simp [bytesAt, List.range_succ]
    rw [e3, ih e1 (by omega)]
    congr 2
    exact UInt8.toNat_inj.1 (by rw [byteAt_toNat, e2])
theorem text_back (q V a : Nat) (s : ByteArray) (hb : bitsAt q V a (16 + 8 * s.size) = tx s.size s.data.toList) (hle : a + (16 + 8 * s.size) ≤ 8 * q) :
    bitsAt q V a 16 = s.size ∧ (⟨(bytesAt q V (a + 16) s.size).toArray⟩ : ByteArray) = s := by
  have hl : s.data.toList.length = s.size := by simp
  obtain ⟨h1, h2⟩ := text_at q V a s hb hle
  refine ⟨h1, ?_⟩
  have h3 := bytes_at q V (a + 16) s.data.toList (by rw [hl]; exact h2) (by rw [hl]; omega)
  rw [hl] at h3
  rw [h3]
end Go.Proofs.YtcglfknkkeaegaaGreatDoor
namespace Go.Proofs.YtcglfknkkeaegaaGreatDoor
open Go.ChangeShapes Go.WideShapes Go.ChangeAt Go.RowKit

structure Slt where
  u : Bool
  i : Int
  g : Int
  a : Int
  v : Nat
  d : Bool
  s : ByteArray
instance : DecidableEq Slt := fun x y => decidable_of_iff (x.u = y.u ∧ x.i = y.i ∧ x.g = y.g ∧ x.a = y.a ∧ x.v = y.v ∧ x.d = y.d ∧ x.s = y.s) ⟨fun h => by cases x; cases y; simp_all, fun h => by subst h; exact ⟨rfl, rfl, rfl, rfl, rfl, rfl, rfl⟩⟩
/-- a slot's cells -/
def tc (x : Slt) : Array Value := #[.bool x.u, .int .i64 x.i, .int .i64 x.g, .int .i64 x.a, .int .u64 (x.v : Int), .bool x.d, .string x.s]
def zeroT : Slt := ⟨false, 0, 0, 0, 0, false, ⟨#[]⟩⟩
def okT (x : Slt) : Prop := x.u = true ∧ (0 < x.i ∧ x.i < 41) ∧ (0 ≤ x.g ∧ x.g ≤ 2147483647) ∧ (0 ≤ x.a ∧ x.a < 8) ∧ x.v ≤ 1099511627775 ∧ x.s.size ≤ 64
instance (x : Slt) : Decidable (okT x) := by unfold okT; exact inferInstance
def isT (x : Slt) : Prop := x = zeroT ∨ okT x
instance (x : Slt) : Decidable (isT x) := by unfold isT; exact inferInstance
/-- the number of a slot's first 82 bits -/
def hdT (x : Slt) : Nat := (((((0 * 2 ^ 1 + 1) * 2 ^ 1 + x.d.toNat) * 2 ^ 6 + u64n x.i) * 2 ^ 31 + u64n x.g) * 2 ^ 3 + u64n x.a) * 2 ^ 40 + x.v
def nmT (x : Slt) : Nat := tx (hdT x * 65536 + x.s.size) x.s.data.toList
def secT (x : Slt) : List Nat := if x = zeroT then List.replicate 128 0 else be 128 (nmT x * 2 ^ (926 - 8 * x.s.size))
/-- numbers as wide as they are -/
structure WfT (x : Slt) : Prop where
  i : -9223372036854775808 ≤ x.i ∧ x.i < 9223372036854775808
  g : -9223372036854775808 ≤ x.g ∧ x.g < 9223372036854775808
  a : -9223372036854775808 ≤ x.a ∧ x.a < 9223372036854775808
  v : x.v < 18446744073709551616
  s : x.s.size ≤ 1000
theorem okT_ne {x : Slt} (h : okT x) : x ≠ zeroT := fun e => by rw [e] at h; exact absurd h.1 (by decide)
theorem okT_bits {x : Slt} (h : okT x) : u64n x.i < 64 ∧ u64n x.g < 2147483648 ∧ u64n x.a < 8 ∧ x.v < 1099511627776 ∧ ((u64n x.i : Nat) : Int) = x.i ∧ ((u64n x.g : Nat) : Int) = x.g ∧ ((u64n x.a : Nat) : Int) = x.a := by
  obtain ⟨_, h1, h2, h3, h4, _⟩ := h
  unfold u64n
  refine ⟨?_, ?_, ?_, ?_, ?_, ?_, ?_⟩ <;> omega
/-- what the program asks, in a writer's words -/
theorem okT_iff {x : Slt} (hw : WfT x) (hu : x.u = true) (hi : 0 < x.i ∧ x.i < 41) (hs : x.s.size ≤ 64) :
    okT x ↔ (((((True ∧ 1 < 2 ^ 1) ∧ x.d.toNat < 2 ^ 1) ∧ u64n x.i < 2 ^ 6) ∧ u64n x.g < 2 ^ 31) ∧ u64n x.a < 2 ^ 3) ∧ x.v < 2 ^ 40 := by
  have hg := hw.g
  have ha := hw.a
  have hd : x.d.toNat < 2 := by cases x.d <;> decide
  have e1 : u64n x.g < 2 ^ 31 ↔ 0 ≤ x.g ∧ x.g ≤ 2147483647 := by unfold u64n; omega
  have e2 : u64n x.a < 2 ^ 3 ↔ 0 ≤ x.a ∧ x.a < 8 := by unfold u64n; omega
  have e3 : u64n x.i < 2 ^ 6 := by unfold u64n; omega
  unfold okT
  constructor
  · rintro ⟨_, _, h2, h3, h4, _⟩
    exact ⟨⟨⟨⟨⟨⟨trivial, by decide⟩, hd⟩, e3⟩, e1.mpr h2⟩, e2.mpr h3⟩, by omega⟩
  · rintro ⟨⟨⟨⟨_, _⟩, h2⟩, h3⟩, h4⟩
    exact ⟨hu, hi, e1.mp h2, e2.mp h3, by omega, hs⟩
theorem secT_length (x : Slt) : (secT x).length = 128 := by
  unfold secT
  split
  · simp
  · exact be_length _ _
theorem secT_lt (x : Slt) : ∀ y ∈ secT x, y < 256 := by
  unfold secT
  split
  · intro y hy; rw [List.mem_replicate] at hy; omega
  · exact be_lt _ _
theorem secT_ne {x : Slt} (h : x ≠ zeroT) : secT x = be 128 (nmT x * 2 ^ (926 - 8 * x.s.size)) := if_neg h
theorem secT_zero : secT zeroT = List.replicate 128 0 := if_pos rfl
theorem qnT (n : Nat) : qn (82 + 16 + 8 * n) = 13 + n := by unfold qn; omega
theorem padT (n : Nat) : pad (82 + 16 + 8 * n) = 6 := by unfold pad; omega
theorem row_secT {x : Slt} (h : x ≠ zeroT) (hs : x.s.size ≤ 64) : rowOf (nmT x) (82 + 16 + 8 * x.s.size) ++ List.replicate (115 - x.s.size) 0 = secT x := by
  obtain ⟨k, hk⟩ : ∃ k, 115 = x.s.size + k := ⟨115 - x.s.size, by omega⟩
  have e1 : (2 : Nat) ^ 6 * 256 ^ k = 2 ^ (926 - 8 * x.s.size) := pw256 6 k _ (by omega)
  have e2 := be_noughts (13 + x.s.size) (nmT x * 2 ^ 6) k
  rw [Nat.mul_assoc, e1] at e2
  unfold rowOf
  rw [secT_ne h, qnT, padT, show 115 - x.s.size = k by omega, ← e2, show 13 + x.s.size + k = 128 by omega]
/-- the first 82 bits, and the text behind them -/
theorem nmT_eq (x : Slt) : nmT x = hdT x * 2 ^ (16 + 8 * x.s.size) + tx x.s.size x.s.data.toList := tx_put _ _
theorem head_bits {x : Slt} (hs : x.s.size ≤ 64) (a n t : Nat) (ht : a + n + t = 82) : bitsAt 128 (nmT x * 2 ^ (926 - 8 * x.s.size)) a n = hdT x / 2 ^ t % 2 ^ n := by
  have hlt := tx_size_lt x.s (by omega)
  unfold bitsAt
  rw [show 8 * 128 - a - n = (926 - 8 * x.s.size) + ((16 + 8 * x.s.size) + t) by omega, shift_any, Nat.pow_add, ← Nat.div_div_eq_div_mul, nmT_eq, Nat.mul_comm (hdT x), Nat.mul_add_div (Nat.two_pow_pos _), Nat.div_eq_of_lt hlt, Nat.add_zero]
theorem text_bits {x : Slt} (hs : x.s.size ≤ 64) : bitsAt 128 (nmT x * 2 ^ (926 - 8 * x.s.size)) 82 16 = x.s.size ∧ (⟨(bytesAt 128 (nmT x * 2 ^ (926 - 8 * x.s.size)) 98 x.s.size).toArray⟩ : ByteArray) = x.s := by
  have hlt := tx_size_lt x.s (by omega)
  refine text_back 128 _ 82 x.s (bitsAt_mid (hdT x) _ (16 + 8 * x.s.size) 0 0 (926 - 8 * x.s.size) 128 _ 82 (98 + 8 * x.s.size) (by decide) hlt (by omega) (by omega) ?_) (by omega)
  rw [nmT_eq, Nat.pow_zero, Nat.mul_one, Nat.add_zero]
/-- what stands where a slot's parts do -/
def prT (V : Nat) : Slt := ⟨((bitsAt 128 V 0 1 : Nat) : Int) != 0, (bitsAt 128 V 2 6 : Nat), (bitsAt 128 V 8 31 : Nat), (bitsAt 128 V 39 3 : Nat), bitsAt 128 V 42 40, ((bitsAt 128 V 1 1 : Nat) : Int) != 0, if 98 + 8 * bitsAt 128 V 82 16 ≤ 1024 then ⟨(bytesAt 128 V 98 (bitsAt 128 V 82 16)).toArray⟩ else ⟨#[]⟩⟩
theorem prT_wf (V : Nat) : WfT (prT V) := by
  have h1 := bitsAt_lt 128 V 2 6
  have h2 := bitsAt_lt 128 V 8 31
  have h3 := bitsAt_lt 128 V 39 3
  have h4 := bitsAt_lt 128 V 42 40
  refine ⟨?_, ?_, ?_, ?_, ?_⟩
  · show _ ≤ ((bitsAt 128 V 2 6 : Nat) : Int) ∧ ((bitsAt 128 V 2 6 : Nat) : Int) < _; omega
  · show _ ≤ ((bitsAt 128 V 8 31 : Nat) : Int) ∧ ((bitsAt 128 V 8 31 : Nat) : Int) < _; omega
  · show _ ≤ ((bitsAt 128 V 39 3 : Nat) : Int) ∧ ((bitsAt 128 V 39 3 : Nat) : Int) < _; omega
  · show bitsAt 128 V 42 40 < _; omega
  · show (if 98 + 8 * bitsAt 128 V 82 16 ≤ 1024 then (⟨(bytesAt 128 V 98 (bitsAt 128 V 82 16)).toArray⟩ : ByteArray) else ⟨#[]⟩).size ≤ 1000
    split
    · show (bytesAt 128 V 98 (bitsAt 128 V 82 16)).toArray.size ≤ 1000
      rw [List.size_toArray, bytesAt_length]
      omega
    · exact Nat.zero_le _
theorem bits_nought (q a n : Nat) : bitsAt q 0 a n = 0 := by unfold bitsAt; rw [Nat.zero_div, Nat.zero_mod]
theorem prT_zero : prT 0 = zeroT := by
  unfold prT
  simp only [bits_nought]
  rfl
theorem byN_noughts : ∀ n, byN (List.replicate n 0) = 0
  | 0 => rfl
  | n + 1 => by rw [List.replicate_succ', byN_snoc, byN_noughts n]
theorem hdT_parts {x : Slt} (h : okT x) : hdT x / 2 ^ 81 % 2 ^ 1 = 1 ∧ hdT x / 2 ^ 80 % 2 ^ 1 = x.d.toNat ∧ hdT x / 2 ^ 74 % 2 ^ 6 = u64n x.i ∧ hdT x / 2 ^ 43 % 2 ^ 31 = u64n x.g ∧ hdT x / 2 ^ 40 % 2 ^ 3 = u64n x.a ∧ hdT x / 2 ^ 0 % 2 ^ 40 = x.v ∧ hdT x < 2 ^ 82 := by
  obtain ⟨h1, h2, h3, h4, _⟩ := okT_bits h
  have h5 : x.d.toNat < 2 := by cases x.d <;> decide
  unfold hdT
  obtain ⟨d, hd⟩ : ∃ d, d = x.d.toNat := ⟨_, rfl⟩
  obtain ⟨i, hi⟩ : ∃ d, d = u64n x.i := ⟨_, rfl⟩
  obtain ⟨g, hg⟩ : ∃ d, d = u64n x.g := ⟨_, rfl⟩
  obtain ⟨a, ha⟩ : ∃ d, d = u64n x.a := ⟨_, rfl⟩
  obtain ⟨v, hv⟩ : ∃ d, d = x.v := ⟨_, rfl⟩
  rw [← hd] at h5 ⊢
  rw [← hi] at h1 ⊢
  rw [← hg] at h2 ⊢
  rw [← ha] at h3 ⊢
  rw [← hv] at h4 ⊢
  clear hd hi hg ha hv h
  refine ⟨?_, ?_, ?_, ?_, ?_, ?_, ?_⟩ <;> omega
theorem nmT_lt {x : Slt} (h : okT x) : nmT x * 2 ^ (926 - 8 * x.s.size) < 256 ^ 128 := by
  have hs : x.s.size ≤ 64 := h.2.2.2.2.2
  have hlt := tx_size_lt x.s (by omega)
  have hh := (hdT_parts h).2.2.2.2.2.2
  have e := nmT_eq x
  obtain ⟨M, hM⟩ : ∃ M, M = 16 + 8 * x.s.size := ⟨_, rfl⟩
  rw [← hM] at hlt e
  have : nmT x < 2 ^ (82 + M) := by
    rw [e, Nat.pow_add 2 82 M]
    have h1 := Nat.mul_le_mul_right (2 ^ M) hh
    rw [Nat.succ_mul] at h1
    omega
  refine Nat.lt_of_lt_of_eq ?_ (pw256' (82 + M) 128 (926 - 8 * x.s.size) (by omega)).symm
  exact Nat.mul_lt_mul_of_pos_right this (Nat.two_pow_pos _)
theorem byN_secT {x : Slt} (h : okT x) : byN (secT x) = nmT x * 2 ^ (926 - 8 * x.s.size) := by
  rw [secT_ne (okT_ne h)]
  exact byN_be _ _ (nmT_lt h)
theorem prT_back {x : Slt} (h : isT x) : prT (byN (secT x)) = x := by
  rcases h with rfl | h
  · rw [secT_zero, byN_noughts, prT_zero]
  · have hs : x.s.size ≤ 64 := h.2.2.2.2.2
    have hu : x.u = true := h.1
    have hb := okT_bits h
    obtain ⟨p1, p2, p3, p4, p5, p6, _⟩ := hdT_parts h
    obtain ⟨t1, t2⟩ := text_bits hs
    rw [byN_secT h]
    unfold prT
    rw [t1, head_bits hs 0 1 81 rfl, head_bits hs 1 1 80 rfl, head_bits hs 2 6 74 rfl, head_bits hs 8 31 43 rfl, head_bits hs 39 3 40 rfl, head_bits hs 42 40 0 rfl, p1, p2, p3, p4, p5, p6, if_pos (by omega), t2, hb.2.2.2.2.1, hb.2.2.2.2.2.1, hb.2.2.2.2.2.2]
    clear p1 p2 p3 p4 p5 p6 t1 t2 hs hb h
    obtain ⟨u, i, g, a, v, d, s⟩ := x
    simp only at hu
    subst hu
    cases d <;> rfl
def decSl (l : List Nat) : Option Slt := if l.length = 128 ∧ isT (prT (byN l)) ∧ secT (prT (byN l)) = l then some (prT (byN l)) else none
theorem decSl_back {x : Slt} (h : isT x) : decSl (secT x) = some x := by
  unfold decSl
  rw [prT_back h, if_pos ⟨secT_length x, h, rfl⟩]
theorem decSl_len {l : List Nat} (h : l.length ≠ 128) : decSl l = none := if_neg (fun k => h k.1)
/-- the slot that bytes are, or the zero one; and the error -/
def dT (l : List Nat) : Slt := (decSl l).getD zeroT
def eT (l : List Nat) : Int := if (decSl l).isSome = true then 0 else 4
theorem dT_no {l : List Nat} (h : decSl l = none) : dT l = zeroT ∧ eT l = 4 := by unfold dT eT; rw [h]; exact ⟨rfl, rfl⟩
theorem dT_yes {l : List Nat} {x : Slt} (h : decSl l = some x) : dT l = x ∧ eT l = 0 := by unfold dT eT; rw [h]; exact ⟨rfl, rfl⟩
theorem zeroT_wf : WfT zeroT := ⟨by decide, by decide, by decide, by decide, by decide⟩
end Go.Proofs.YtcglfknkkeaegaaGreatDoor
namespace Go.Proofs.YtcglfknkkeaegaaGreatDoor
open Go.RowKit

def One (d : Nat) : Nat → Prop := fun k => k = d
theorem adv_set (w : World) (d o k : Nat) (u : Value) : Adv (One d) w (One d) ((w.drewN k).setCell ⟨d, o, none⟩ u) :=
  (((Adv.refl (One d) w).drewN k)).setCell (p := ⟨d, o, none⟩) (.inl rfl) u
theorem Adv.set_one {w w' : World} {F : Nat → Prop} {d : Nat} (h : Adv F w (One d) w') (k o : Nat) (u : Value) : Adv F w (One d) ((w'.drewN k).setCell ⟨d, o, none⟩ u) := h.trans (adv_set w' d o k u)
end Go.Proofs.YtcglfknkkeaegaaGreatDoor
