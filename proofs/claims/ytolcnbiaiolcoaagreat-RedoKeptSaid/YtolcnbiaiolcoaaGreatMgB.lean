/- The writer's calls. Clone, Done, Open. The reader's state, and its take. The reader's calls. -/
import Derived.Test.YtolcnbiaiolcoaaGreatMgA
import Derived.Deep.QuietTactic
import Derived.BigQuiet
import Derived.Laws.AppendOwnNone
namespace Go.Proofs.YtolcnbiaiolcoaaGreat
open Go.RowKit

set_option maxRecDepth 3000 in
theorem isWidth_yes (n : Nat) (w : World) (h : n ≤ 64) : Calls Tryz.prog 125 #[.int .i64 n] w fun e w' => e = .returned (.bool true) ∧ w = w' := by
  have h0 : (0 : Int) ≤ n := by omega
  have h1 : (n : Int) ≤ 64 := by omega
  go_enter Tryz.func125, Tryz.ntmps125
  go_wp2
  go_ret
  exact ⟨rfl, rfl⟩

set_option maxRecDepth 3000 in
theorem isWidth_no (n : Int) (w : World) (h : n < 0 ∨ 64 < n) : Calls Tryz.prog 125 #[.int .i64 n] w fun e w' => e = .returned (.bool false) ∧ w = w' := by
  rcases h with h | h
  · have h0 : decide ((0 : Int) ≤ n) = false := by simp; omega
    go_enter Tryz.func125, Tryz.ntmps125
    go_wp2
    go_ret
    exact ⟨rfl, rfl⟩
  · have h0 : (0 : Int) ≤ n := by omega
    have h1 : decide (n ≤ (64 : Int)) = false := by simp; omega
    go_enter Tryz.func125, Tryz.ntmps125
    go_wp2
    go_ret
    exact ⟨rfl, rfl⟩

/-- The writer at block b has an error. -/
structure WErr (w : World) (F : Nat → Prop) (b : Nat) : Prop where
  ex : ∃ v r, Blk w b 178 #[.bool true, .int .i64 2, v, r]
  inF : F b
  bd : Bd F w

set_option maxRecDepth 3000 in
theorem fail_any (b : Nat) (F : Nat → Prop) (v r : Value) (w : World) (hB : Blk w b 178 #[.bool true, .int .i64 0, v, r]) (hF : F b) (hb : Bd F w) :
    Calls Tryz.prog 129 #[.pointer (some ⟨b, 0, none⟩)] w fun e w' => e = .returned (.pointer (some ⟨b, 0, none⟩)) ∧ WErr w' F b ∧ Adv F w F w' := by
  have c1 : w.cell? ⟨b, 1, none⟩ = some (.int .i64 0) := hB.cell 1
  have c2 : w.cell? ⟨b, 2, none⟩ = some v := hB.cell 2
  have c3 : w.cell? ⟨b, 3, none⟩ = some r := hB.cell 3
  have f1 := hB.frozen 1
  have f2 := hB.frozen 2
  have f3 := hB.frozen 3
  have H := Lib.hid hB
  clear hB
  go_enter Tryz.func129, Tryz.ntmps129
  go_wp2
  go_ret
  refine ⟨rfl, ⟨⟨_, _, (((H.out.set_ 1 _).set_ 2 _).set_ 3 _)⟩, hF, fun j hj => by have := hb j hj; simpa [World.setCell] using this⟩, ?_⟩
  exact (((Adv.refl F w).setCell (p := ⟨b, 1, none⟩) (.inl hF) _).setCell (p := ⟨b, 2, none⟩) (.inl hF) _).setCell (p := ⟨b, 3, none⟩) (.inl hF) _

theorem shr_no {x n : Nat} (h : x < 2 ^ n) : ((x : Int) / 2 ^ n != 0) = false := by
  have e : (x : Int) / 2 ^ n = ((x / 2 ^ n : Nat) : Int) := by rw [Int.natCast_ediv, Int.natCast_pow]; rfl
  rw [e, Nat.div_eq_of_lt h]; rfl
theorem shr_yes {x n : Nat} (h : 2 ^ n ≤ x) : ((x : Int) / 2 ^ n != 0) = true := by
  have e : (x : Int) / 2 ^ n = ((x / 2 ^ n : Nat) : Int) := by rw [Int.natCast_ediv, Int.natCast_pow]; rfl
  have : 0 < x / 2 ^ n := Nat.div_pos h (Nat.two_pow_pos n)
  rw [e, bne_iff_ne]; omega

set_option maxRecDepth 3000 in
set_option maxHeartbeats 400000 in
theorem put_ok (b N m x n : Nat) (F : Nat → Prop) (w : World) (hw : WSt w F b N m) (hF : Bd F w) (hn : n ≤ 64) (hx : x < 2 ^ n) (hm : m + n ≤ 1000000000) :
    Calls Tryz.prog 108 #[.pointer (some ⟨b, 0, none⟩), .int .u64 x, .int .i64 n] w fun e w' => e = .returned (.pointer (some ⟨b, 0, none⟩)) ∧
      ∃ F', WSt w' F' b (N * 2 ^ n + x) (m + n) ∧ Adv F w F' w' ∧ Bd F' w' := by
  obtain ⟨v, hB, hS⟩ := hw.ex
  have c0 : w.cell? ⟨b, 0, none⟩ = some (.bool true) := hB.cell 0
  have c1 : w.cell? ⟨b, 1, none⟩ = some (.int .i64 0) := hB.cell 1
  have hd := shr_no hx
  have HW := Lib.hid hw
  have HX := Lib.hid hx
  have hx64 := pow_lt64 hx hn
  clear hB hS hw hx
  go_enter Tryz.func108, Tryz.ntmps108
  go_wp2_with (first
    | (go_at_call 125; refine (isWidth_yes n _ hn).mono ?_; rintro e w' ⟨rfl, rfl⟩)
    | (go_at_call 130; refine (lay_any b N m x n F _ HW.out hF hn HX.out hm).mono ?_; rintro e w1 ⟨rfl, hpost⟩))
  go_ret
  exact ⟨rfl, hpost⟩

set_option maxRecDepth 3000 in
/-- A number that does not fit. -/
theorem put_bad (b N m x : Nat) (n : Int) (F : Nat → Prop) (w : World) (hw : WSt w F b N m) (hF : Bd F w) (_hx : x < 18446744073709551616) (hbad : n < 0 ∨ 64 < n ∨ ∃ k : Nat, n = k ∧ k ≤ 64 ∧ 2 ^ k ≤ x) :
    Calls Tryz.prog 108 #[.pointer (some ⟨b, 0, none⟩), .int .u64 x, .int .i64 n] w fun e w' => e = .returned (.pointer (some ⟨b, 0, none⟩)) ∧ WErr w' F b ∧ Adv F w F w' := by
  obtain ⟨v, hB, hS⟩ := hw.ex
  have c0 : w.cell? ⟨b, 0, none⟩ = some (.bool true) := hB.cell 0
  have c1 : w.cell? ⟨b, 1, none⟩ = some (.int .i64 0) := hB.cell 1
  have hFb := hw.inF
  have HB := Lib.hid hB
  clear hB hS hw
  by_cases hn : n < 0 ∨ 64 < n
  · clear hbad
    go_enter Tryz.func108, Tryz.ntmps108
    go_wp2_with (first
      | (go_at_call 125; refine (isWidth_no n _ hn).mono ?_; rintro e w' ⟨rfl, rfl⟩)
      | (go_at_call 129; refine (fail_any b F _ _ _ HB.out hFb hF).mono ?_; rintro e w1 ⟨rfl, hpost⟩))
    go_ret
    exact ⟨rfl, hpost⟩
  · obtain ⟨k, rfl, hk, hkx⟩ : ∃ k : Nat, n = k ∧ k ≤ 64 ∧ 2 ^ k ≤ x := by
      rcases hbad with h | h | h
      · exact absurd (.inl h) hn
      · exact absurd (.inr h) hn
      · exact h
    have hd := shr_yes hkx
    clear hbad hn hkx
    go_enter Tryz.func108, Tryz.ntmps108
    go_wp2_with (first
      | (go_at_call 125; refine (isWidth_yes k _ hk).mono ?_; rintro e w' ⟨rfl, rfl⟩)
      | (go_at_call 129; refine (fail_any b F _ _ _ HB.out hFb hF).mono ?_; rintro e w1 ⟨rfl, hpost⟩))
    go_ret
    exact ⟨rfl, hpost⟩

set_option maxRecDepth 3000 in
/-- A writer that has an error already. -/
theorem put_err (b : Nat) (x n : Int) (F : Nat → Prop) (w : World) (hw : WErr w F b) :
    Calls Tryz.prog 108 #[.pointer (some ⟨b, 0, none⟩), .int .u64 x, .int .i64 n] w fun e w' => e = .returned (.pointer (some ⟨b, 0, none⟩)) ∧ w = w' := by
  obtain ⟨v, r, hB⟩ := hw.ex
  have c0 : w.cell? ⟨b, 0, none⟩ = some (.bool true) := hB.cell 0
  have c1 : w.cell? ⟨b, 1, none⟩ = some (.int .i64 2) := hB.cell 1
  clear hB hw
  go_enter Tryz.func108, Tryz.ntmps108
  go_wp2
  go_ret
  exact ⟨rfl, rfl⟩

set_option maxRecDepth 3000 in
theorem put_none (x n : Int) (w : World) :
    Calls Tryz.prog 108 #[.pointer none, .int .u64 x, .int .i64 n] w fun e w' => e = .returned (.pointer none) ∧ w = w' := by
  go_enter Tryz.func108, Tryz.ntmps108
  go_wp2
  go_ret
  exact ⟨rfl, rfl⟩

set_option maxRecDepth 3000 in
theorem put_zero (b : Nat) (x n : Int) (w : World) (c0 : w.cell? ⟨b, 0, none⟩ = some (.bool false)) :
    Calls Tryz.prog 108 #[.pointer (some ⟨b, 0, none⟩), .int .u64 x, .int .i64 n] w fun e w' => e = .returned (.pointer none) ∧ w = w' := by
  go_enter Tryz.func108, Tryz.ntmps108
  go_wp2
  go_ret
  exact ⟨rfl, rfl⟩

set_option maxRecDepth 3000 in
theorem new_any (w : World) : Calls Tryz.prog 107 #[] w fun e w' => ∃ b F, e = .returned (.pointer (some ⟨b, 0, none⟩)) ∧ WSt w' F b 0 0 ∧ Adv Nul w F w' ∧ Bd F w' := by
  go_enter Tryz.func107, Tryz.ntmps107
  go_wp2
  go_ret
  refine ⟨w.heap.size, (· = w.heap.size), rfl, ⟨⟨.slice none 0 0, Blk.new _ _ _, ?_⟩, rfl, by decide⟩, ?_, ?_⟩
  · refine Sl.nilF _ _ (fun k hk => ?_) _ _
    simp [hk]
  · exact Adv.new_ ((Below.refl _ _).alloc (Nat.le_refl _) _) (fun k hk => by simp [hk])
  · intro k hk
    simp [hk]
end Go.Proofs.YtolcnbiaiolcoaaGreat
namespace Go.Proofs.YtolcnbiaiolcoaaGreat
open Go.RowKit

set_option maxRecDepth 3000 in
theorem clone_any (v : Value) (n : Nat) (xs : List Value) (w : World) (hv : Rd w 1 v n xs) (h1 : ∀ u ∈ xs, u.oneCell' = true) (hl : n ≤ 1000000000) :
    Calls Tryz.prog 123 #[v] w fun e w' => ∃ v' F', e = .returned v' ∧ Sl w' F' 5 1 v' n xs ∧ Adv Nul w F' w' := by
  obtain ⟨A, c, rfl, hnc, hcm, hxl, hA, hr⟩ := hv
  obtain ⟨i0, hi, hz0, hz1, hz2⟩ := info_parts Tryz.infoU8
  rcases A with _ | a
  · obtain rfl : c = 0 := hA rfl
    obtain rfl : n = 0 := by omega
    obtain rfl : xs = [] := List.eq_nil_of_length_eq_zero (by simpa using hxl)
    have he := fun wx => Lib.run_eql_slice_nil (P := Tryz.prog) wx 53 5 none 0 0 0 0 Tryz.underlying53
    clear hnc hcm hxl hA hr h1
    go_enter Tryz.func123, Tryz.ntmps123
    go_wp2
    go_ret
    exact ⟨_, _, rfl, Sl.nil _ _ _, Adv.refl _ _⟩
  · have he := fun wx => Lib.run_eql_slice_nil (P := Tryz.prog) wx 53 5 (some a) n c 0 0 Tryz.underlying53
    have hcells : ∀ j u, xs[j]? = some u → (w.alloc (.cells #[] 5)).cell? (a.add j) = some u := by
      intro j u hu
      have hj : j < xs.length := (List.getElem?_eq_some_iff.1 hu).1
      obtain ⟨ad, e, hb, hc⟩ := hr (by omega)
      injection e with e
      subst e
      rw [World.cell?_of_block (w := w) (by rw [add_block]; exact Below.heap_alloc _ _ _ hb)]
      exact hc j u hu
    have hown : (w.alloc (.cells #[] 5)).ownsRow w.heap.size 5 1 (.slice (some ⟨w.heap.size, 0, none⟩) 0 0) 0 [] := World.ownsRow_made w #[] 0 (Nat.le_refl _) (Nat.zero_le _) rfl
    have HR := Lib.hid hr
    have HC := Lib.hid hcells
    have HL := Lib.hid hxl
    clear hr hcells hA hxl hnc hcm
    go_enter Tryz.func123, Tryz.ntmps123
    go_wp2_with (first
      | (at_builtin; refine wpList_append_own_at _ rfl (.tmp 5) (.tmp 6) 53 rfl w.heap.size 5 i0 (.int .u8 0) 1 1 Tryz.underlying53 hi hz0 hz1 hz2 rfl (by decide) (.slice (some ⟨w.heap.size, 0, none⟩) 0 0) 0 [] rfl hown a n c xs rfl HL.out HC.out h1 ?c3 ?c4 (by simp) ?c5)
      | fail)
    case c3 => unfold maxLen; omega
    case c4 => omega
    case c5 =>
      intro v' w1 hown1 hg1 _ hat1
      go_wp2
      go_ret
      have hb : Below w.heap.size w w1 := ((Below.refl w.heap.size w).alloc (Nat.le_refl _) _).grown hg1 (by simp) (fun k hk => by simp [Value.ownBlock] at hk; omega)
      have hlt := hown1.lt
      exact ⟨v', (fun k => v'.ownBlock = some k), rfl, ⟨own_base hown1, fun k hk => hk, fun k hk => (hlt k hk).2⟩, Adv.new_ hb (fun k hk => (hlt k hk).1)⟩

set_option maxRecDepth 3000 in
theorem done_ok (b N m : Nat) (F : Nat → Prop) (w : World) (hw : WSt w F b N m) (hm : m ≤ 1000000000) :
    Calls Tryz.prog 109 #[.pointer (some ⟨b, 0, none⟩)] w fun e w' => ∃ v F', e = .returned (.tuple #[v, .int .i64 0]) ∧ Sl w' F' 5 1 v (qn m) ((rowOf N m).map u8) ∧ Adv Nul w F' w' := by
  obtain ⟨v, hB, hS⟩ := hw.ex
  have c0 : w.cell? ⟨b, 0, none⟩ = some (.bool true) := hB.cell 0
  have c1 : w.cell? ⟨b, 1, none⟩ = some (.int .i64 0) := hB.cell 1
  have c2 : w.cell? ⟨b, 2, none⟩ = some v := hB.cell 2
  have HS := Lib.hid hS
  have hq : qn m ≤ 1000000000 := by unfold qn; omega
  clear hB hS hw
  go_enter Tryz.func109, Tryz.ntmps109
  go_wp2_with (first
    | (go_at_call 123; refine (clone_any v _ _ _ HS.out.rd (u8_one _) hq).mono ?_; rintro e w1 ⟨v1, F1, rfl, hpost⟩))
  go_ret2
  exact ⟨_, _, rfl, hpost⟩

set_option maxRecDepth 3000 in
theorem done_err (b : Nat) (F : Nat → Prop) (w : World) (hw : WErr w F b) :
    Calls Tryz.prog 109 #[.pointer (some ⟨b, 0, none⟩)] w fun e w' => e = .returned (.tuple #[.slice none 0 0, .int .i64 2]) ∧ Adv Nul w Nul w' := by
  obtain ⟨v, r, hB⟩ := hw.ex
  have c0 : w.cell? ⟨b, 0, none⟩ = some (.bool true) := hB.cell 0
  have c1 : w.cell? ⟨b, 1, none⟩ = some (.int .i64 2) := hB.cell 1
  clear hB hw
  go_enter Tryz.func109, Tryz.ntmps109
  go_wp2
  go_quiet (fail)
  go_wp2
  go_ret2
  exact ⟨rfl, (Adv.refl _ _).drewN _⟩

set_option maxRecDepth 3000 in
theorem done_none (w : World) :
    Calls Tryz.prog 109 #[.pointer none] w fun e w' => e = .returned (.tuple #[.slice none 0 0, .int .i64 1]) ∧ w = w' := by
  go_enter Tryz.func109, Tryz.ntmps109
  go_wp2
  go_ret2
  exact ⟨rfl, rfl⟩
end Go.Proofs.YtolcnbiaiolcoaaGreat
namespace Go.Proofs.YtolcnbiaiolcoaaGreat
open Go.RowKit

/-- The reader at block b has q bytes, the digits of V; the first a bits of them were read. -/
structure RSt (w : World) (F : Nat → Prop) (b q V a : Nat) : Prop where
  ex : ∃ rowv, Blk w b 175 #[.bool true, .int .i64 0, rowv, .int .i64 (a : Nat)] ∧ Sl w F 5 1 rowv q ((be q V).map u8)
  inF : F b
  le : a ≤ 8 * q
  sm : q ≤ 1000000000

/-- The reader at block b has the error e. -/
structure RErr (w : World) (F : Nat → Prop) (b : Nat) (e : Int) : Prop where
  ex : ∃ v r, Blk w b 175 #[.bool true, .int .i64 e, v, r]
  ne : (e != 0) = true
  inF : F b
  bd : Bd F w

set_option maxRecDepth 3000 in
theorem open_any (v : Value) (q V : Nat) (w : World) (hv : Rd w 1 v q ((be q V).map u8)) (hl : q ≤ 1000000000) :
    Calls Tryz.prog 100 #[v] w fun e w' => ∃ b F, e = .returned (.pointer (some ⟨b, 0, none⟩)) ∧ RSt w' F b q V 0 ∧ Adv Nul w F w' ∧ Bd F w' := by
  have H := Lib.hid hv
  clear hv
  go_enter Tryz.func100, Tryz.ntmps100
  go_wp2_with (first
    | (go_at_call 123; refine (clone_any v _ _ _ H.out (u8_one _) hl).mono ?_; rintro e w1 ⟨v1, F1, rfl, hs1, ha1⟩; obtain ⟨a1, c1, rfl, _, _⟩ := hs1.form0))
  go_ret
  refine ⟨w1.heap.size, fun k => F1 k ∨ k = w1.heap.size, rfl, ⟨⟨_, Blk.new _ _ _, ?_⟩, .inr rfl, by omega, hl⟩, ?_, ?_⟩
  · exact ⟨own_keep hs1.own (fun k hk => Below.heap_alloc _ _ _ (hs1.bd k (hs1.inF k hk))), fun k hk => .inl (hs1.inF k hk), fun k hk => by
      rcases hk with h | h
      · have := hs1.bd k h; simp; omega
      · simp [h]⟩
  · have h1 := ha1.alloc (.cells #[.bool true, .int .i64 0, .slice a1 q c1, .int .i64 0] 175)
    refine ⟨h1.os, h1.tape, h1.output, h1.size, h1.block, fun k hk => ?_⟩
    rcases hk with h | h
    · exact h1.into k h
    · right; rw [h]; exact ha1.size
  · intro k hk
    rcases hk with h | h
    · have := hs1.bd k h; simp; omega
    · simp [h]

def TakeRel (w : World) (F : Nat → Prop) (b q V a n : Nat) (t5 t1 : Value) (wr : World) : Prop :=
  ∃ c k, t1 = .int .i64 ((k : Nat) : Int) ∧ t5 = .int .u64 ((bitsAt q V a c : Nat) : Int) ∧ c + k = n ∧ RSt wr F b q V (a + c) ∧ Adv (· = b) w (· = b) wr ∧ Bd F wr

theorem take_val (X u k s q V a c p : Nat) (hX : X = bitsAt q V a c) (hu : u = V / 256 ^ (q - 1 - p / 8) % 256) (hp : p = a + c) (hs : s = 8 - p % 8 - k) (hk : k ≤ 8 - p % 8) (hc : c + k ≤ 64) (hpq : p + k ≤ 8 * q) (hp8 : p / 8 < q)
    (v : Int) (hv : v = ((u / 2 ^ s : Nat) : Int)) :
    bits .or .u64 (IntKind.u64.wrap ((X : Int) * 2 ^ k)) (bits .and .u64 v (IntKind.u64.wrap (IntKind.u64.wrap (2 ^ k) - 1))) = ((bitsAt q V a (c + k) : Nat) : Int) := by
  have hu256 : u < 256 := by rw [hu]; exact Nat.mod_lt _ (by decide)
  have hv256 : u / 2 ^ s ≤ u := Nat.div_le_self _ _
  have e2 : IntKind.u64.wrap ((X : Int) * 2 ^ k) = ((X * 2 ^ k % 18446744073709551616 : Nat) : Int) := by
    rw [IntKind.wrap_u64, Int.natCast_emod, Int.natCast_mul, Int.natCast_pow]; rfl
  rw [hv, e2, and_mask _ k (by omega) (by omega), u64_or_nat _ _ (Nat.mod_lt _ (by decide)) (Nat.lt_of_le_of_lt (Nat.mod_le _ _) (by omega))]
  have h1 : u / 2 ^ s % 2 ^ k = bitsAt q V p k := by rw [hu, hs]; exact bitsAt_byte q V p k hk hp8
  rw [h1, or_sum X _ c k (by rw [hX]; exact bitsAt_lt _ _ _ _) (bitsAt_lt _ _ _ _) hc, bitsAt_split q V a c k (by omega), hX, hp]

theorem wrap_div (u s : Nat) (hu : u < 256) : IntKind.u64.wrap ((u : Int) / 2 ^ s) = ((u / 2 ^ s : Nat) : Int) := by
  have h : u / 2 ^ s ≤ u := Nat.div_le_self _ _
  have e : (u : Int) / 2 ^ s = ((u / 2 ^ s : Nat) : Int) := by rw [Int.natCast_ediv, Int.natCast_pow]; rfl
  rw [e, IntKind.wrap_u64]
  have h2 : ((u / 2 ^ s : Nat) : Int) ≤ u := by exact_mod_cast h
  have h3 : (0 : Int) ≤ ((u / 2 ^ s : Nat) : Int) := Int.natCast_nonneg _
  exact Int.emod_eq_of_lt h3 (by omega)

theorem take_close {w wr : World} {F : Nat → Prop} {b q V a n c k kk p j : Nat} {v : Value} (hB : Blk wr b 175 #[.bool true, .int .i64 0, v, .int .i64 (p : Nat)]) (hS : Sl wr F 5 1 v q ((be q V).map u8)) (hFb : F b) (hq : q ≤ 1000000000)
    (hp : p = a + c) (hck : c + k = n) (hkk : kk ≤ k) (hpk : p + k ≤ 8 * q) (ha : Adv (· = b) w (· = b) wr) (x t m : Int) (hx : x = ((bitsAt q V a (c + kk) : Nat) : Int)) (ht : t = ((p + kk : Nat) : Int)) (hm : m = ((k - kk : Nat) : Int)) :
    TakeRel w F b q V a n (.int .u64 x) (.int .i64 m) ((wr.drewN j).setCell ⟨b, 3, none⟩ (.int .i64 t)) := by
  subst hx; subst ht; subst hm
  have hne : v.ownBlock ≠ some b := own_blk_ne hS.own hB (by decide)
  refine ⟨c + kk, k - kk, rfl, rfl, by omega, ⟨⟨v, ?_, ?_⟩, hFb, by omega, hq⟩, (ha.drewN j).setCell (p := ⟨b, 3, none⟩) (.inl rfl) _, fun i hi => by have := hS.bd i hi; simpa [World.setCell] using this⟩
  · have h := (show Blk (wr.drewN j) b 175 _ from hB).set_ 3 (.int .i64 ((p + kk : Nat) : Int))
    rw [show a + (c + kk) = p + kk from by omega]
    exact h
  · refine ⟨own_keep hS.own (fun i hi => ?_), hS.inF, fun i hi => by have := hS.bd i hi; simpa [World.setCell] using this⟩
    exact Below.heap_setCell (wr.drewN j) _ _ _ (fun e => hne (by rw [hi, e]))

set_option maxRecDepth 3000 in
set_option maxHeartbeats 1000000 in
theorem take_any (b q V a n : Nat) (F : Nat → Prop) (w : World) (hw : RSt w F b q V a) (hF : Bd F w) (hn : n ≤ 64) (hx : a + n ≤ 8 * q) :
    Calls Tryz.prog 128 #[.pointer (some ⟨b, 0, none⟩), .int .i64 n] w fun e w' => e = .returned (.int .u64 ((bitsAt q V a n : Nat) : Int)) ∧ RSt w' F b q V (a + n) ∧ Adv (· = b) w (· = b) w' ∧ Bd F w' := by
  have hq := hw.sm
  have H0 := Lib.hid hw
  clear hw
  go_enter Tryz.func128, Tryz.ntmps128
  go_wp2_with fail
  go_loopw [5, 1] (TakeRel w F b q V a n) (fun _ t _ => (intOf t).toNat)
  case atStart => exact ⟨0, n, rfl, by rw [bitsAt_zero]; rfl, by omega, H0.out, Adv.refl _ _, hF⟩
  case round =>
    obtain ⟨c, k, rfl, rfl, hck, hR, ha, hb⟩ := hrel
    obtain ⟨rowv, hB, hS⟩ := hR.ex
    have hFb := hR.inF
    by_cases hk0 : 0 < k
    · have hq0 : 0 < q := by omega
      obtain ⟨g, cap, rfl, hFg, hqc⟩ := hS.form hq0
      obtain ⟨p, hp⟩ : ∃ p, p = a + c := ⟨_, rfl⟩
      rw [← hp] at hB
      have c2 : wr.cell? ⟨b, 2, none⟩ = some (.slice (some ⟨g, 0, none⟩) q cap) := hB.cell 2
      have c3 : wr.cell? ⟨b, 3, none⟩ = some (.int .i64 p) := hB.cell 3
      have f3 := hB.frozen 3
      have hpq : p + k ≤ 8 * q := by omega
      have hp8 : p / 8 < q := by omega
      obtain ⟨u, hu⟩ : ∃ u, u = V / 256 ^ (q - 1 - p / 8) % 256 := ⟨_, rfl⟩
      have hg : wr.cell? ⟨g, p / 8, none⟩ = some (.int .u8 u) := by
        rw [hS.own.cellAt (p / 8) (by omega), List.getElem?_map, be_get _ _ _ hp8, ← hu]; rfl
      have hu256 : u < 256 := by rw [hu]; exact Nat.mod_lt _ (by decide)
      obtain ⟨X, hX⟩ : ∃ X, X = bitsAt q V a c := ⟨_, rfl⟩
      have hXlt : X < 18446744073709551616 := by rw [hX]; exact pow_lt64 (bitsAt_lt _ _ _ _) (by omega)
      rw [← hX]
      have HX := Lib.hid hX
      have HU := Lib.hid hu
      have HP := Lib.hid hp
      have HB := Lib.hid hB
      have HS := Lib.hid hS
      have HC := Lib.hid hck
      have hk64 : k ≤ 64 := by omega
      obtain ⟨r, hr⟩ : ∃ r, r = p % 8 := ⟨_, rfl⟩
      have hr8 : r < 8 := by omega
      have hrem : ((p : Int) % 8) = (r : Int) := by omega
      clear hX hu hp hB hS hR hck hr
      rcases Nat.lt_trichotomy k (8 - r) with hkr | hkr | hkr
      · go_wp2_with fail
        go_quiet (fail)
        go_wp2_with fail
        go_quiet (fail)
        go_wp2
        refine ⟨take_close (kk := k) HB.out HS.out hFb hq HP.out HC.out (by omega) hpq ha _ _ _ (take_val X u k (8 - r - k) q V a c p HX.out HU.out HP.out (by omega) (by omega) (by have := HC.out; omega) (by omega) hp8 _ ?_) ?_ ?_, ?_⟩
        · exact wrap_div u _ hu256
        · omega
        · omega
        · simp [intOf] <;> omega
      · subst hkr
        go_wp2_with fail
        go_quiet (fail)
        go_wp2_with fail
        go_quiet (fail)
        go_wp2
        refine ⟨take_close (kk := 8 - r) HB.out HS.out hFb hq HP.out HC.out (by omega) hpq ha _ _ _ (take_val X u (8 - r) 0 q V a c p HX.out HU.out HP.out (by omega) (by omega) (by have := HC.out; omega) (by omega) hp8 _ ?_) ?_ ?_, ?_⟩
        · simp
        · omega
        · omega
        · simp [intOf] <;> omega
      · go_wp2_with fail
        go_quiet (fail)
        go_wp2_with fail
        go_quiet (fail)
        go_wp2
        refine ⟨take_close (kk := 8 - r) HB.out HS.out hFb hq HP.out HC.out (by omega) hpq ha _ _ _ (take_val X u (8 - r) 0 q V a c p HX.out HU.out HP.out (by omega) (by omega) (by have := HC.out; omega) (by omega) hp8 _ ?_) ?_ ?_, ?_⟩
        · simp
        · omega
        · omega
        · simp [intOf] <;> omega
    · obtain rfl : k = 0 := by omega
      have h : c = n := by omega
      subst h
      go_wp2
      go_ret
      exact ⟨rfl, hR, ha, hb⟩
end Go.Proofs.YtolcnbiaiolcoaaGreat
namespace Go.Proofs.YtolcnbiaiolcoaaGreat
open Go.RowKit

set_option maxRecDepth 3000 in
theorem rerr_ok (b q V a : Nat) (F : Nat → Prop) (w : World) (hw : RSt w F b q V a) :
    Calls Tryz.prog 124 #[.pointer (some ⟨b, 0, none⟩)] w fun e w' => e = .returned (.int .i64 0) ∧ w = w' := by
  obtain ⟨v, hB, _⟩ := hw.ex
  have c0 : w.cell? ⟨b, 0, none⟩ = some (.bool true) := hB.cell 0
  have c1 : w.cell? ⟨b, 1, none⟩ = some (.int .i64 0) := hB.cell 1
  clear hB hw
  go_enter Tryz.func124, Tryz.ntmps124
  go_wp2
  go_ret
  exact ⟨rfl, rfl⟩

set_option maxRecDepth 3000 in
theorem rerr_err (b : Nat) (x : Int) (F : Nat → Prop) (w : World) (hw : RErr w F b x) :
    Calls Tryz.prog 124 #[.pointer (some ⟨b, 0, none⟩)] w fun e w' => e = .returned (.int .i64 x) ∧ w = w' := by
  obtain ⟨v, r, hB⟩ := hw.ex
  have c0 : w.cell? ⟨b, 0, none⟩ = some (.bool true) := hB.cell 0
  have c1 : w.cell? ⟨b, 1, none⟩ = some (.int .i64 x) := hB.cell 1
  clear hB hw
  go_enter Tryz.func124, Tryz.ntmps124
  go_wp2
  go_ret
  exact ⟨rfl, rfl⟩

/-- A reader that no call made: nil, or a zero one. -/
def RNo (w : World) (v : Value) : Prop := v = .pointer none ∨ ∃ b, v = .pointer (some ⟨b, 0, none⟩) ∧ w.cell? ⟨b, 0, none⟩ = some (.bool false)

set_option maxRecDepth 3000 in
theorem rerr_no (v : Value) (w : World) (hw : RNo w v) :
    Calls Tryz.prog 124 #[v] w fun e w' => e = .returned (.int .i64 1) ∧ w = w' := by
  rcases hw with rfl | ⟨b, rfl, c0⟩
  · go_enter Tryz.func124, Tryz.ntmps124
    go_wp2
    go_ret
    exact ⟨rfl, rfl⟩
  · go_enter Tryz.func124, Tryz.ntmps124
    go_wp2
    go_ret
    exact ⟨rfl, rfl⟩

set_option maxRecDepth 3000 in
theorem left_ok (b q V a : Nat) (F : Nat → Prop) (w : World) (hw : RSt w F b q V a) :
    Calls Tryz.prog 127 #[.pointer (some ⟨b, 0, none⟩)] w fun e w' => e = .returned (.int .i64 ((8 * q - a : Nat) : Int)) ∧ ∃ n, w' = w.drewN n := by
  obtain ⟨v, hB, hS⟩ := hw.ex
  obtain ⟨a0, cap, rfl, _, _⟩ := hS.form0
  have c2 : w.cell? ⟨b, 2, none⟩ = some (.slice a0 q cap) := hB.cell 2
  have c3 : w.cell? ⟨b, 3, none⟩ = some (.int .i64 a) := hB.cell 3
  have hle := hw.le
  have hsm := hw.sm
  have H := Lib.hid hw
  clear hB hw hS
  go_enter Tryz.func127, Tryz.ntmps127
  go_wp2_with (first
    | (go_at_call 124; refine (rerr_ok _ _ _ _ _ _ H.out).mono ?_; rintro e w1 ⟨rfl, rfl⟩))
  go_quiet (fail)
  go_wp2
  go_ret
  refine ⟨?_, _, rfl⟩
  rw [show ((8 * q - a : Nat) : Int) = (q : Int) * 8 - a from by omega]
  rfl

set_option maxRecDepth 3000 in
theorem left_err (b : Nat) (x : Int) (F : Nat → Prop) (w : World) (hw : RErr w F b x) :
    Calls Tryz.prog 127 #[.pointer (some ⟨b, 0, none⟩)] w fun e w' => e = .returned (.int .i64 0) ∧ w = w' := by
  have hx := hw.ne
  have H := Lib.hid hw
  clear hw
  go_enter Tryz.func127, Tryz.ntmps127
  go_wp2_with (first
    | (go_at_call 124; refine (rerr_err _ _ _ _ H.out).mono ?_; rintro e w1 ⟨rfl, rfl⟩))
  go_ret
  exact ⟨rfl, rfl⟩

set_option maxRecDepth 3000 in
theorem left_no (v : Value) (w : World) (hw : RNo w v) :
    Calls Tryz.prog 127 #[v] w fun e w' => e = .returned (.int .i64 0) ∧ w = w' := by
  have H := Lib.hid hw
  clear hw
  go_enter Tryz.func127, Tryz.ntmps127
  go_wp2_with (first
    | (go_at_call 124; refine (rerr_no _ _ H.out).mono ?_; rintro e w1 ⟨rfl, rfl⟩))
  go_ret
  exact ⟨rfl, rfl⟩

set_option maxRecDepth 3000 in
theorem rfail_any (b q V a : Nat) (x : Int) (hx : (x != 0) = true) (F : Nat → Prop) (w : World) (hw : RSt w F b q V a) (hb : Bd F w) :
    Calls Tryz.prog 126 #[.pointer (some ⟨b, 0, none⟩), .int .i64 x] w fun e w' => e = .returned (.tuple #[]) ∧ RErr w' F b x ∧ Adv F w F w' := by
  obtain ⟨v, hB, hS⟩ := hw.ex
  have hF := hw.inF
  have c1 : w.cell? ⟨b, 1, none⟩ = some (.int .i64 0) := hB.cell 1
  have c2 : w.cell? ⟨b, 2, none⟩ = some v := hB.cell 2
  have c3 : w.cell? ⟨b, 3, none⟩ = some (.int .i64 a) := hB.cell 3
  have f1 := hB.frozen 1
  have f2 := hB.frozen 2
  have f3 := hB.frozen 3
  have H := Lib.hid hB
  clear hB hS hw
  go_enter Tryz.func126, Tryz.ntmps126
  go_wp2
  go_end0
  refine ⟨rfl, ⟨⟨_, _, (((H.out.set_ 1 _).set_ 2 _).set_ 3 _)⟩, hx, hF, fun j hj => by have := hb j hj; simpa [World.setCell] using this⟩, ?_⟩
  exact (((Adv.refl F w).setCell (p := ⟨b, 1, none⟩) (.inl hF) _).setCell (p := ⟨b, 2, none⟩) (.inl hF) _).setCell (p := ⟨b, 3, none⟩) (.inl hF) _

theorem RSt.drewN {w : World} {F : Nat → Prop} {b q V a : Nat} (h : RSt w F b q V a) (n : Nat) : RSt (w.drewN n) F b q V a :=
  ⟨let ⟨r, h1, h2⟩ := h.ex; ⟨r, h1, ⟨h2.own, h2.inF, h2.bd⟩⟩, h.inF, h.le, h.sm⟩

set_option maxRecDepth 3000 in
set_option maxHeartbeats 400000 in
theorem get_ok (b q V a n : Nat) (F : Nat → Prop) (w : World) (hw : RSt w F b q V a) (hF : Bd F w) (hn : n ≤ 64) (hx : a + n ≤ 8 * q) :
    Calls Tryz.prog 101 #[.pointer (some ⟨b, 0, none⟩), .int .i64 n] w fun e w' => e = .returned (.int .u64 ((bitsAt q V a n : Nat) : Int)) ∧ RSt w' F b q V (a + n) ∧ Adv F w F w' ∧ Bd F w' := by
  have hn2 : (n : Int) ≤ ((8 * q - a : Nat) : Int) := by omega
  have H := Lib.hid hw
  clear hw
  go_enter Tryz.func101, Tryz.ntmps101
  go_wp2_with (first
    | (go_at_call 124; refine (rerr_ok _ _ _ _ _ _ H.out).mono ?_; rintro e w1 ⟨rfl, rfl⟩)
    | (go_at_call 125; refine (isWidth_yes n _ hn).mono ?_; rintro e w1 ⟨rfl, rfl⟩)
    | (go_at_call 127; refine (left_ok _ _ _ _ _ _ H.out).mono ?_; rintro e w1 ⟨rfl, nd, rfl⟩)
    | (go_at_call 128; refine (take_any _ _ _ _ n _ _ (H.out.drewN nd) hF hn hx).mono ?_; rintro e w2 ⟨rfl, h1, h2, h3⟩))
  go_ret
  exact ⟨rfl, h1, (Adv.of_drewN h2).same (fun k hk => by rw [hk]; exact H.out.inF), h3⟩

set_option maxRecDepth 3000 in
theorem get_width (b q V a : Nat) (n : Int) (F : Nat → Prop) (w : World) (hw : RSt w F b q V a) (hF : Bd F w) (hn : n < 0 ∨ 64 < n) :
    Calls Tryz.prog 101 #[.pointer (some ⟨b, 0, none⟩), .int .i64 n] w fun e w' => e = .returned (.int .u64 0) ∧ RErr w' F b 2 ∧ Adv F w F w' := by
  have H := Lib.hid hw
  have HN := Lib.hid hn
  clear hw hn
  go_enter Tryz.func101, Tryz.ntmps101
  go_wp2_with (first
    | (go_at_call 124; refine (rerr_ok _ _ _ _ _ _ H.out).mono ?_; rintro e w1 ⟨rfl, rfl⟩)
    | (go_at_call 125; refine (isWidth_no n _ HN.out).mono ?_; rintro e w1 ⟨rfl, rfl⟩)
    | (go_at_call 126; refine (rfail_any _ _ _ _ _ (by decide) _ _ H.out hF).mono ?_; rintro e w1 ⟨rfl, h1, h2⟩))
  go_ret
  exact ⟨rfl, h1, h2⟩

set_option maxRecDepth 3000 in
theorem get_short (b q V a n : Nat) (F : Nat → Prop) (w : World) (hw : RSt w F b q V a) (hF : Bd F w) (hn : n ≤ 64) (hx : 8 * q < a + n) :
    Calls Tryz.prog 101 #[.pointer (some ⟨b, 0, none⟩), .int .i64 n] w fun e w' => e = .returned (.int .u64 0) ∧ RErr w' F b 3 ∧ Adv F w F w' := by
  have hle := hw.le
  have hn2 : ((8 * q - a : Nat) : Int) < (n : Int) := by omega
  have H := Lib.hid hw
  clear hw
  go_enter Tryz.func101, Tryz.ntmps101
  go_wp2_with (first
    | (go_at_call 124; refine (rerr_ok _ _ _ _ _ _ H.out).mono ?_; rintro e w1 ⟨rfl, rfl⟩)
    | (go_at_call 125; refine (isWidth_yes n _ hn).mono ?_; rintro e w1 ⟨rfl, rfl⟩)
    | (go_at_call 127; refine (left_ok _ _ _ _ _ _ H.out).mono ?_; rintro e w1 ⟨rfl, nd, rfl⟩)
    | (go_at_call 126; refine (rfail_any _ _ _ _ _ (by decide) _ _ (H.out.drewN nd) hF).mono ?_; rintro e w1 ⟨rfl, h1, h2⟩))
  go_ret
  exact ⟨rfl, h1, ⟨h2.os, h2.tape, h2.output, h2.size, h2.block, h2.into⟩⟩

set_option maxRecDepth 3000 in
theorem get_err (b : Nat) (n x : Int) (F : Nat → Prop) (w : World) (hw : RErr w F b x) :
    Calls Tryz.prog 101 #[.pointer (some ⟨b, 0, none⟩), .int .i64 n] w fun e w' => e = .returned (.int .u64 0) ∧ w = w' := by
  have hx := hw.ne
  have H := Lib.hid hw
  clear hw
  go_enter Tryz.func101, Tryz.ntmps101
  go_wp2_with (first
    | (go_at_call 124; refine (rerr_err _ _ _ _ H.out).mono ?_; rintro e w1 ⟨rfl, rfl⟩))
  go_ret
  exact ⟨rfl, rfl⟩

set_option maxRecDepth 3000 in
theorem get_no (v : Value) (n : Int) (w : World) (hw : RNo w v) :
    Calls Tryz.prog 101 #[v, .int .i64 n] w fun e w' => e = .returned (.int .u64 0) ∧ w = w' := by
  have H := Lib.hid hw
  clear hw
  go_enter Tryz.func101, Tryz.ntmps101
  go_wp2_with (first
    | (go_at_call 124; refine (rerr_no _ _ H.out).mono ?_; rintro e w1 ⟨rfl, rfl⟩))
  go_ret
  exact ⟨rfl, rfl⟩

theorem bitsAt_all (q V a : Nat) : bitsAt q V a (8 * q - a) = V % 2 ^ (8 * q - a) := by
  unfold bitsAt
  rw [Nat.sub_self, Nat.pow_zero, Nat.div_one]

/-- what End says of a reader without an error -/
def endOf (q V a : Nat) : Int := if 8 * q - a < 8 ∧ V % 2 ^ (8 * q - a) = 0 then 0 else 6

set_option maxRecDepth 3000 in
set_option maxHeartbeats 400000 in
theorem rend_ok (b q V a : Nat) (F : Nat → Prop) (w : World) (hw : RSt w F b q V a) (hF : Bd F w) :
    Calls Tryz.prog 102 #[.pointer (some ⟨b, 0, none⟩)] w fun e w' => e = .returned (.int .i64 (endOf q V a)) ∧ Below w.heap.size w w' := by
  obtain ⟨v, hB, hS⟩ := hw.ex
  obtain ⟨a0, cap, rfl, _, _⟩ := hS.form0
  have c0 : w.cell? ⟨b, 0, none⟩ = some (.bool true) := hB.cell 0
  have c1 : w.cell? ⟨b, 1, none⟩ = some (.int .i64 0) := hB.cell 1
  have c2 : w.cell? ⟨b, 2, none⟩ = some (.slice a0 q cap) := hB.cell 2
  have c3 : w.cell? ⟨b, 3, none⟩ = some (.int .i64 a) := hB.cell 3
  have H := Lib.hid hw
  have HB := Lib.hid hB
  have HS := Lib.hid hS
  clear hB hw hS
  have hle := H.out.le
  have hc : RSt (w.alloc (.cells #[.bool true, .int .i64 0, .slice a0 q cap, .int .i64 (a : Nat)] 175)) F b q V a :=
    ⟨⟨_, HB.out.alloc _, own_keep HS.out.own (fun k hk => Below.heap_alloc _ _ _ (hF k (HS.out.inF k hk))), HS.out.inF, fun k hk => by have := hF k hk; simp; omega⟩, H.out.inF, H.out.le, H.out.sm⟩
  have hd : RSt (w.alloc (.cells #[.bool true, .int .i64 0, .slice a0 q cap, .int .i64 (a : Nat)] 175)) (fun k => F k ∨ k = w.heap.size) w.heap.size q V a :=
    ⟨⟨_, Blk.new _ _ _, own_keep HS.out.own (fun k hk => Below.heap_alloc _ _ _ (hF k (HS.out.inF k hk))), fun k hk => .inl (HS.out.inF k hk), fun k hk => by
      rcases hk with h | h
      · have := hF k h; simp; omega
      · simp [h]⟩, .inr rfl, H.out.le, H.out.sm⟩
  have HC := Lib.hid hc
  have HD := Lib.hid hd
  clear hc hd
  have hfin : ∀ (n : Nat) (w2 : World), Adv (· = w.heap.size) ((w.alloc (.cells #[.bool true, .int .i64 0, .slice a0 q cap, .int .i64 (a : Nat)] 175)).drewN n) (· = w.heap.size) w2 → Below w.heap.size w w2 := fun n w2 h =>
    (Adv.of_drewN h).below ((Below.refl _ _).alloc (Nat.le_refl _) _) (fun k hk => by rw [hk]; exact Nat.le_refl _) (by simp)
  have HF := Lib.hid hfin
  clear hfin
  by_cases h8 : 8 * q - a < 8
  · have h8' : ((8 * q - a : Nat) : Int) < 8 := by omega
    by_cases h0 : V % 2 ^ (8 * q - a) = 0
    · have e0 : endOf q V a = 0 := by unfold endOf; rw [if_pos ⟨h8, h0⟩]
      rw [e0]
      have eb : bitsAt q V a (8 * q - a) = 0 := by rw [bitsAt_all]; exact h0
      have EB := Lib.hid eb
      clear eb e0 h0
      go_enter Tryz.func102, Tryz.ntmps102
      go_wp2_with (first
        | (go_at_call 124; refine (rerr_ok _ _ _ _ _ _ H.out).mono ?_; rintro e w1 ⟨rfl, rfl⟩)
        | (go_at_call 127; refine (left_ok _ _ _ _ _ _ HC.out).mono ?_; rintro e w1 ⟨rfl, nd, rfl⟩)
        | (go_at_call 128; refine (take_any _ _ _ _ (8 * q - a) _ _ (HD.out.drewN nd) (HD.out.ex.choose_spec.2.bd) (by omega) (by omega)).mono ?_; rintro e w2 ⟨rfl, h1, h2, h3⟩; rw [EB.out]))
      go_ret
      exact ⟨rfl, HF.out nd w2 h2⟩
    · have e0 : endOf q V a = 6 := by unfold endOf; rw [if_neg (fun h => h0 h.2)]
      rw [e0]
      have eb : (((bitsAt q V a (8 * q - a) : Nat) : Int) != 0) = true := by rw [bitsAt_all, bne_iff_ne]; omega
      clear e0 h0
      go_enter Tryz.func102, Tryz.ntmps102
      go_wp2_with (first
        | (go_at_call 124; refine (rerr_ok _ _ _ _ _ _ H.out).mono ?_; rintro e w1 ⟨rfl, rfl⟩)
        | (go_at_call 127; refine (left_ok _ _ _ _ _ _ HC.out).mono ?_; rintro e w1 ⟨rfl, nd, rfl⟩)
        | (go_at_call 128; refine (take_any _ _ _ _ (8 * q - a) _ _ (HD.out.drewN nd) (HD.out.ex.choose_spec.2.bd) (by omega) (by omega)).mono ?_; rintro e w2 ⟨rfl, h1, h2, h3⟩))
      go_ret
      exact ⟨rfl, HF.out nd w2 h2⟩
  · have h8' : (8 : Int) ≤ ((8 * q - a : Nat) : Int) := by omega
    have e0 : endOf q V a = 6 := by unfold endOf; rw [if_neg (fun h => h8 h.1)]
    rw [e0]
    clear e0
    go_enter Tryz.func102, Tryz.ntmps102
    go_wp2_with (first
      | (go_at_call 124; refine (rerr_ok _ _ _ _ _ _ H.out).mono ?_; rintro e w1 ⟨rfl, rfl⟩)
      | (go_at_call 127; refine (left_ok _ _ _ _ _ _ HC.out).mono ?_; rintro e w1 ⟨rfl, nd, rfl⟩))
    go_ret
    exact ⟨rfl, HF.out nd _ (Adv.refl _ _)⟩

set_option maxRecDepth 3000 in
theorem rend_err (b : Nat) (x : Int) (F : Nat → Prop) (w : World) (hw : RErr w F b x) :
    Calls Tryz.prog 102 #[.pointer (some ⟨b, 0, none⟩)] w fun e w' => e = .returned (.int .i64 x) ∧ w = w' := by
  have hx := hw.ne
  have H := Lib.hid hw
  clear hw
  go_enter Tryz.func102, Tryz.ntmps102
  go_wp2_with (first
    | (go_at_call 124; refine (rerr_err _ _ _ _ H.out).mono ?_; rintro e w1 ⟨rfl, rfl⟩))
  go_ret
  exact ⟨rfl, rfl⟩
end Go.Proofs.YtolcnbiaiolcoaaGreat
