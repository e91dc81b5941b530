/- Places that are given up by turns: sets as numbers, a hand that goes around. -/
import Derived.Lib.TrailingZeros
namespace Go.Proofs.YtmefpafjcafgnaaDoor

def pput (x i : Nat) : Nat := x ||| 2 ^ i
def ddrop (x i : Nat) : Nat := x &&& (18446744073709551615 - 2 ^ i)
theorem pput_bit (x i j : Nat) : (pput x i).testBit j = (x.testBit j || decide (j = i)) := by
  unfold pput
  rw [Nat.testBit_or, Nat.testBit_two_pow]
  by_cases h : i = j
  · simp [h]
  · rw [decide_eq_false h, decide_eq_false (Ne.symm h)]
theorem ddrop_bit {x i : Nat} (hx : x < 18446744073709551616) (hi : i < 64) (j : Nat) : (ddrop x i).testBit j = (x.testBit j && !decide (j = i)) := by
  unfold ddrop
  have h1 : 2 ^ i < 2 ^ 64 := Nat.pow_lt_pow_right (by decide) hi
  rw [Nat.testBit_and, show 18446744073709551615 - 2 ^ i = 2 ^ 64 - (2 ^ i + 1) by omega, Nat.testBit_two_pow_sub_succ h1, Nat.testBit_two_pow]
  rcases Nat.lt_or_ge j 64 with hj | hj
  · rw [decide_eq_true hj]
    by_cases h : i = j
    · simp [h]
    · rw [decide_eq_false h, decide_eq_false (Ne.symm h)]; simp
  · have : x.testBit j = false := Nat.testBit_lt_two_pow (Nat.lt_of_lt_of_le hx (show 2 ^ 64 ≤ 2 ^ j from Nat.pow_le_pow_right (by decide) hj))
    rw [this]; simp
theorem pput_lt {x i n : Nat} (hx : x < 2 ^ n) (hi : i < n) : pput x i < 2 ^ n := Nat.or_lt_two_pow hx (Nat.pow_lt_pow_right (by decide) hi)
theorem ddrop_lt {x i n : Nat} (hx : x < 2 ^ n) : ddrop x i < 2 ^ n := Nat.lt_of_le_of_lt Nat.and_le_left hx
theorem lt64 {x n : Nat} (h : x < 2 ^ n) (hn : n ≤ 64) : x < 18446744073709551616 := Nat.lt_of_lt_of_le h (show 2 ^ n ≤ 2 ^ 64 from Nat.pow_le_pow_right (by decide) hn)
theorem bit_out {x n i : Nat} (h : x < 2 ^ n) (hi : n ≤ i) : x.testBit i = false := Nat.testBit_lt_two_pow (Nat.lt_of_lt_of_le h (Nat.pow_le_pow_right (by decide) hi))

/-- the lowest bit -/
theorem ctz_bit {x : Nat} (h0 : x ≠ 0) (h : x < 18446744073709551616) : x.testBit (Lib.ctz 64 x) = true ∧ (∀ j, j < Lib.ctz 64 x → x.testBit j = false) ∧ Lib.ctz 64 x < 64 := by
  obtain ⟨m, hm, hk⟩ := Lib.ctzFrom_spec 64 x (by omega) h
  have e : Lib.ctz 64 x = Lib.ctzFrom 64 x := by simp [Lib.ctz, h0]
  rw [e]
  generalize Lib.ctzFrom 64 x = k at hm hk
  subst hm
  refine ⟨?_, fun j hj => ?_, hk⟩
  · rw [Nat.mul_comm, Nat.testBit_mul_two_pow]; simp
  · rw [Nat.mul_comm, Nat.testBit_mul_two_pow, decide_eq_false (by omega)]; rfl

def bitsL (x : Nat) : List Nat := (List.range 64).filter (fun i => x.testBit i)
theorem filt_none {f : Nat → Bool} : ∀ n, (∀ j, j < n → f j = false) → (List.range n).filter f = []
  | 0, _ => rfl
  | n + 1, h => by rw [List.range_succ, List.filter_append, filt_none n (fun j hj => h j (by omega))]; simp [h n (by omega)]
theorem filt_congr {f g : Nat → Bool} : ∀ n, (∀ j, j < n → f j = g j) → (List.range n).filter f = (List.range n).filter g
  | 0, _ => rfl
  | n + 1, h => by rw [List.range_succ, List.filter_append, List.filter_append, filt_congr n (fun j hj => h j (by omega))]; simp only [List.filter_cons, h n (by omega), List.filter_nil]
theorem filt_step {f g : Nat → Bool} {c : Nat} (hc : f c = true) (h0 : ∀ j, j < c → f j = false) (hg : ∀ j, g j = (f j && !decide (j = c))) : ∀ n, c < n → (List.range n).filter f = c :: (List.range n).filter g
  | 0, h => absurd h (by omega)
  | n + 1, h => by
    rw [List.range_succ, List.filter_append, List.filter_append]
    by_cases e : c < n
    · rw [filt_step hc h0 hg n e]
      have : f n = g n := by rw [hg, decide_eq_false (by omega)]; simp
      simp only [List.filter_cons, this]; rfl
    · obtain rfl : c = n := by omega
      rw [filt_none c h0, filt_none c (fun j hj => by rw [hg, h0 j hj]; rfl)]
      have : g c = false := by rw [hg]; simp
      simp [hc, this]
theorem bitsL_step {x : Nat} (h0 : x ≠ 0) (h : x < 18446744073709551616) : bitsL x = Lib.ctz 64 x :: bitsL (ddrop x (Lib.ctz 64 x)) := by
  obtain ⟨h1, h2, h3⟩ := ctz_bit h0 h
  exact filt_step h1 h2 (fun j => ddrop_bit h h3 j) 64 h3
theorem bitsL_zero : bitsL 0 = [] := filt_none 64 (fun j _ => Nat.zero_testBit j)
theorem filt_more {f : Nat → Bool} {n : Nat} (h : ∀ j, n ≤ j → f j = false) : ∀ k, (List.range (n + k)).filter f = (List.range n).filter f
  | 0 => rfl
  | k + 1 => by rw [← Nat.add_assoc, List.range_succ, List.filter_append, filt_more h k]; simp [h (n + k) (by omega)]
theorem bitsL_of {x n : Nat} (h : x < 2 ^ n) (hn : n ≤ 64) : bitsL x = (List.range n).filter (fun i => x.testBit i) := by
  have := filt_more (f := fun i => x.testBit i) (n := n) (fun j hj => bit_out h hj) (64 - n)
  rwa [show n + (64 - n) = 64 by omega] at this
theorem bitsL_mem {x i : Nat} (h : x < 18446744073709551616) : i ∈ bitsL x ↔ x.testBit i = true := by
  unfold bitsL
  rw [List.mem_filter, List.mem_range]
  refine ⟨fun h => h.2, fun k => ⟨?_, k⟩⟩
  rcases Nat.lt_or_ge i 64 with hi | hi
  · exact hi
  · rw [bit_out (n := 64) h hi] at k; cases k
theorem bitsL_len (x : Nat) : (bitsL x).length ≤ 64 := by
  have := List.length_filter_le (fun i => x.testBit i) (List.range 64)
  rwa [List.length_range] at this

theorem every_bit (n j : Nat) : (2 ^ n - 1).testBit j = decide (j < n) := Nat.testBit_two_pow_sub_one ..
theorem every_iff {x n : Nat} (h : x < 2 ^ n) : x = 2 ^ n - 1 ↔ ∀ i, i < n → x.testBit i = true := by
  constructor
  · rintro e i hi; rw [e, every_bit, decide_eq_true hi]
  · intro k
    apply Nat.eq_of_testBit_eq
    intro i
    rw [every_bit]
    rcases Nat.lt_or_ge i n with hi | hi
    · rw [k i hi, decide_eq_true hi]
    · rw [bit_out h hi, decide_eq_false (by omega)]

/-- a ring: places, used ones, pinned ones, marked ones, the hand -/
structure CS where
  n : Nat
  u : Nat
  p : Nat
  m : Nat
  h : Nat
structure COk (s : CS) : Prop where
  lo : 1 ≤ s.n
  hi : s.n ≤ 64
  u : s.u < 2 ^ s.n
  p : s.p < 2 ^ s.n
  m : s.m < 2 ^ s.n
  h : s.h < s.n
  sub : ∀ i, s.p.testBit i = true → s.u.testBit i = true
theorem COk.u64 {s : CS} (h : COk s) : s.u < 18446744073709551616 := lt64 h.u h.hi
theorem COk.p64 {s : CS} (h : COk s) : s.p < 18446744073709551616 := lt64 h.p h.hi
theorem COk.m64 {s : CS} (h : COk s) : s.m < 18446744073709551616 := lt64 h.m h.hi
def cNew (n : Nat) : CS := ⟨n, 0, 0, 0, 0⟩
theorem COk.new {n : Nat} (h1 : 1 ≤ n) (h2 : n ≤ 64) : COk (cNew n) := ⟨h1, h2, Nat.two_pow_pos n, Nat.two_pow_pos n, Nat.two_pow_pos n, h1, fun i h => by rw [show (cNew n).p = 0 from rfl, Nat.zero_testBit] at h; cases h⟩

/-- a call that names a place that is there -/
def doS (k : Int) (s : CS) (i : Nat) : CS :=
  if k = 0 then { s with u := pput s.u i, p := ddrop s.p i, m := pput s.m i }
  else if k = 1 then { s with u := ddrop s.u i, p := ddrop s.p i, m := ddrop s.m i }
  else if k = 2 then (if s.u.testBit i then { s with m := pput s.m i } else s)
  else if k = 3 then (if s.u.testBit i then { s with p := pput s.p i } else s)
  else { s with p := ddrop s.p i }
def hereC (s : CS) (i : Int) : Prop := 0 ≤ i ∧ i < (s.n : Int)
instance (s : CS) (i : Int) : Decidable (hereC s i) := by unfold hereC; infer_instance
def doC (k : Int) (s : CS) (i : Int) : CS := if hereC s i then doS k s i.toNat else s
def doE (k : Int) (s : CS) (i : Int) : Int := if hereC s i then (if (k = 2 ∨ k = 3) ∧ s.u.testBit i.toNat = false then 11 else 0) else 2
theorem doS_ok {k : Int} {s : CS} (h : COk s) {i : Nat} (hi : i < s.n) : COk (doS k s i) := by
  have hi64 : i < 64 := Nat.lt_of_lt_of_le hi h.hi
  unfold doS
  split
  · refine ⟨h.lo, h.hi, pput_lt h.u hi, ddrop_lt h.p, pput_lt h.m hi, h.h, fun j hj => ?_⟩
    rw [ddrop_bit h.p64 hi64] at hj
    rw [pput_bit, h.sub j (by revert hj; cases s.p.testBit j <;> simp)]; rfl
  split
  · refine ⟨h.lo, h.hi, ddrop_lt h.u, ddrop_lt h.p, ddrop_lt h.m, h.h, fun j hj => ?_⟩
    rw [ddrop_bit h.p64 hi64, Bool.and_eq_true] at hj
    rw [ddrop_bit h.u64 hi64, h.sub j hj.1, hj.2]; rfl
  split
  · split
    · exact ⟨h.lo, h.hi, h.u, h.p, pput_lt h.m hi, h.h, h.sub⟩
    · exact h
  split
  · split
    · rename_i hu
      refine ⟨h.lo, h.hi, h.u, pput_lt h.p hi, h.m, h.h, fun j hj => ?_⟩
      rw [pput_bit] at hj
      by_cases e : j = i
      · rw [e]; exact hu
      · rw [decide_eq_false e, Bool.or_false] at hj; exact h.sub j hj
    · exact h
  · refine ⟨h.lo, h.hi, h.u, ddrop_lt h.p, h.m, h.h, fun j hj => ?_⟩
    rw [ddrop_bit h.p64 hi64, Bool.and_eq_true] at hj
    exact h.sub j hj.1
theorem doC_ok {k : Int} {s : CS} (h : COk s) (i : Int) : COk (doC k s i) := by
  unfold doC
  split
  · rename_i e
    obtain ⟨e1, e2⟩ := e
    exact doS_ok h (by omega)
  · exact h

/-! The hand. -/
def nxt (s : CS) : Nat := if s.h + 1 = s.n then 0 else s.h + 1
theorem nxt_lt {s : CS} (h : COk s) : nxt s < s.n := by
  have := h.h; have := h.lo
  unfold nxt; split <;> omega
theorem nxt_mod {s : CS} (h : COk s) : (s.h + 1) % s.n = nxt s := by
  have := h.h
  unfold nxt
  split
  · rename_i e; rw [e, Nat.mod_self]
  · exact Nat.mod_eq_of_lt (by omega)
def stepP (s : CS) : CS := { s with h := nxt s }
def stepM (s : CS) : CS := { s with h := nxt s, m := ddrop s.m s.h }
def turnF : Nat → CS → Option (Nat × CS)
  | 0, _ => none
  | k + 1, s => if s.p.testBit s.h = true then turnF k (stepP s) else if s.m.testBit s.h = true then turnF k (stepM s) else some (s.h, stepP s)
theorem COk.stepP {s : CS} (h : COk s) : COk (stepP s) := ⟨h.lo, h.hi, h.u, h.p, h.m, nxt_lt h, h.sub⟩
theorem COk.stepM {s : CS} (h : COk s) : COk (stepM s) := ⟨h.lo, h.hi, h.u, h.p, ddrop_lt h.m, nxt_lt h, h.sub⟩
theorem turn_mono : ∀ (k : Nat) (s : CS) (r : Nat × CS), turnF k s = some r → turnF (k + 1) s = some r
  | 0, _, _, h => by cases h
  | k + 1, s, r, h => by
    unfold turnF at h ⊢
    split
    · rename_i e; rw [if_pos e] at h; exact turn_mono k _ r h
    · rename_i e
      rw [if_neg e] at h
      split
      · rename_i e2; rw [if_pos e2] at h; exact turn_mono k _ r h
      · rename_i e2; rw [if_neg e2] at h; exact h
theorem turn_more {k : Nat} {s : CS} {r : Nat × CS} (h : turnF k s = some r) : ∀ j, turnF (k + j) s = some r
  | 0 => h
  | j + 1 => turn_mono _ _ _ (turn_more h j)
def dist (s : CS) (j : Nat) : Nat := if s.h ≤ j then j - s.h else j + s.n - s.h
theorem dist_zero {s : CS} {j : Nat} (h : COk s) : dist s j = 0 ↔ j = s.h := by
  have := h.h
  unfold dist; split <;> omega
theorem dist_lt {s : CS} {j : Nat} (h : COk s) (hj : j < s.n) : dist s j < s.n := by
  have := h.h
  unfold dist; split <;> omega
theorem dist_step {s t : CS} {j d : Nat} (h : COk s) (hj : j < s.n) (hd : dist s j = d + 1) (hn : t.n = s.n) (ht : t.h = nxt s) : dist t j = d := by
  have := h.h
  unfold dist at hd ⊢
  unfold nxt at ht
  rw [hn, ht]
  split at hd <;> split <;> split <;> omega
theorem dist_round {s t : CS} (h : COk s) (hn : t.n = s.n) (ht : t.h = nxt s) : dist t s.h = s.n - 1 := by
  have := h.h
  unfold dist
  unfold nxt at ht
  rw [hn, ht]
  split <;> split <;> omega
theorem turnA : ∀ (d : Nat) (s : CS) (j : Nat), COk s → j < s.n → dist s j = d → s.p.testBit j = false → s.m.testBit j = false → ∃ r, turnF (d + 1) s = some r
  | 0, s, j, h, hj, hd, hp, hm => by
    obtain rfl := (dist_zero h).1 hd
    unfold turnF
    rw [if_neg (by rw [hp]; decide), if_neg (by rw [hm]; decide)]
    exact ⟨_, rfl⟩
  | d + 1, s, j, h, hj, hd, hp, hm => by
    have hne : j ≠ s.h := fun e => by rw [(dist_zero h).2 e] at hd; omega
    unfold turnF
    split
    · exact turnA d (stepP s) j h.stepP hj (dist_step h hj hd rfl rfl) hp hm
    split
    · refine turnA d (stepM s) j h.stepM hj (dist_step h hj hd rfl rfl) hp ?_
      show (ddrop s.m s.h).testBit j = false
      rw [ddrop_bit h.m64 (Nat.lt_of_lt_of_le h.h h.hi), hm]; rfl
    · exact ⟨_, rfl⟩
theorem turnB : ∀ (d : Nat) (s : CS) (j : Nat), COk s → j < s.n → dist s j = d → s.p.testBit j = false → ∃ r, turnF (d + 1 + s.n) s = some r
  | 0, s, j, h, hj, hd, hp => by
    have hlo := h.lo
    by_cases hm : s.m.testBit j = false
    · obtain ⟨r, hr⟩ := turnA 0 s j h hj hd hp hm
      exact ⟨r, turn_more hr s.n⟩
    · obtain rfl := (dist_zero h).1 hd
      rw [show 0 + 1 + s.n = s.n + 1 by omega]
      unfold turnF
      rw [if_neg (by rw [hp]; decide), if_pos (by revert hm; cases s.m.testBit s.h <;> simp)]
      obtain ⟨r, hr⟩ := turnA (s.n - 1) (stepM s) s.h h.stepM hj (dist_round h rfl rfl) hp (by
        show (ddrop s.m s.h).testBit s.h = false
        rw [ddrop_bit h.m64 (Nat.lt_of_lt_of_le h.h h.hi)]; simp)
      rw [show s.n - 1 + 1 = s.n by omega] at hr
      exact ⟨r, hr⟩
  | d + 1, s, j, h, hj, hd, hp => by
    have hne : j ≠ s.h := fun e => by rw [(dist_zero h).2 e] at hd; omega
    rw [show d + 1 + 1 + s.n = (d + 1 + s.n) + 1 by omega]
    unfold turnF
    split
    · exact turnB d (stepP s) j h.stepP hj (dist_step h hj hd rfl rfl) hp
    split
    · exact turnB d (stepM s) j h.stepM hj (dist_step h hj hd rfl rfl) hp
    · exact ⟨_, rfl⟩
theorem turn_ends {s : CS} (h : COk s) (hp : s.p ≠ 2 ^ s.n - 1) : ∃ r, turnF (2 * s.n) s = some r := by
  have : ∃ j, j < s.n ∧ s.p.testBit j = false := by
    apply Classical.byContradiction
    intro hn
    apply hp
    refine (every_iff h.p).2 fun i hi => ?_
    cases e : s.p.testBit i
    · exact (hn ⟨i, hi, e⟩).elim
    · rfl
  obtain ⟨j, hj, hb⟩ := this
  obtain ⟨r, hr⟩ := turnB (dist s j) s j h hj rfl hb
  have := dist_lt h hj
  have hm := turn_more hr (2 * s.n - (dist s j + 1 + s.n))
  rw [show dist s j + 1 + s.n + (2 * s.n - (dist s j + 1 + s.n)) = 2 * s.n by omega] at hm
  exact ⟨r, hm⟩
/-- what the hand leaves -/
theorem turn_keep : ∀ (k : Nat) (s : CS) (i : Nat) (t : CS), COk s → turnF k s = some (i, t) → i < s.n ∧ s.p.testBit i = false ∧ COk t ∧ t.n = s.n ∧ t.u = s.u ∧ t.p = s.p
  | 0, _, _, _, _, h => by cases h
  | k + 1, s, i, t, h, e => by
    unfold turnF at e
    split at e
    · exact turn_keep k (stepP s) i t h.stepP e
    rename_i hp
    split at e
    · exact turn_keep k (stepM s) i t h.stepM e
    · injection e with e
      injection e with e1 e2
      subst e1 e2
      exact ⟨h.h, by revert hp; cases s.p.testBit s.h <;> simp, h.stepP, rfl, rfl, rfl⟩
theorem turn_near : ∀ (k d : Nat) (s : CS) (i : Nat) (t : CS) (j : Nat), COk s → j < s.n → dist s j = d → s.p.testBit j = false → s.m.testBit j = false → turnF k s = some (i, t) → s.m.testBit i = false ∧ dist s i ≤ d
  | 0, _, _, _, _, _, _, _, _, _, _, e => by cases e
  | k + 1, d, s, i, t, j, h, hj, hd, hp, hm, e => by
    have hin := (turn_keep _ _ _ _ h e).1
    unfold turnF at e
    split at e
    · rename_i hph
      have hne : j ≠ s.h := fun q => by rw [q, hph] at hp; cases hp
      obtain ⟨d, rfl⟩ : ∃ d', d = d' + 1 := ⟨d - 1, by have := mt (dist_zero h).1 hne; omega⟩
      obtain ⟨h1, h2⟩ := turn_near k d (stepP s) i t j h.stepP hj (dist_step h hj hd rfl rfl) hp hm e
      refine ⟨h1, ?_⟩
      have h0 := dist_zero (j := i) h
      rcases Nat.eq_zero_or_pos (dist s i) with q | q
      · omega
      · have := dist_step (t := stepP s) (d := dist s i - 1) h hin (by omega) rfl rfl
        omega
    rename_i hph
    split at e
    · rename_i hmh
      have hne : j ≠ s.h := fun q => by rw [q, hmh] at hm; cases hm
      obtain ⟨d, rfl⟩ : ∃ d', d = d' + 1 := ⟨d - 1, by have := mt (dist_zero h).1 hne; omega⟩
      have hb := fun x => ddrop_bit h.m64 (Nat.lt_of_lt_of_le h.h h.hi) x
      obtain ⟨h1, h2⟩ := turn_near k d (stepM s) i t j h.stepM hj (dist_step h hj hd rfl rfl) hp (by
        show (ddrop s.m s.h).testBit j = false
        rw [hb, hm]; rfl) e
      have hlt := dist_lt h hj
      have hih : i ≠ s.h := fun q => by
        have := dist_round (t := stepM s) h rfl rfl
        rw [← q] at this
        omega
      refine ⟨?_, ?_⟩
      · have : (ddrop s.m s.h).testBit i = false := h1
        rw [hb, decide_eq_false hih] at this
        simpa using this
      · have := mt (dist_zero h).1 hih
        have := dist_step (t := stepM s) (d := dist s i - 1) h hin (by omega) rfl rfl
        omega
    · rename_i hmh
      injection e with e
      injection e with e1 e2
      subst e1 e2
      refine ⟨by revert hmh; cases s.m.testBit s.h <;> simp, ?_⟩
      rw [(dist_zero h).2 rfl]
      exact Nat.zero_le _

/-! Next. -/
def freeL (s : CS) : Option Nat := (List.range s.n).find? (fun i => !s.u.testBit i)
theorem freeL_some {s : CS} {i : Nat} (h1 : i < s.n) (h2 : s.u.testBit i = false) (h3 : ∀ j, j < i → s.u.testBit j = true) : freeL s = some i := by
  unfold freeL
  rw [List.find?_range_eq_some]
  exact ⟨by simp [h2], by simpa using h1, fun j hj => by simp [h3 j hj]⟩
theorem freeL_none {s : CS} (h : ∀ i, i < s.n → s.u.testBit i = true) : freeL s = none := by
  unfold freeL
  rw [List.find?_eq_none]
  intro i hi
  rw [h i (by simpa using hi)]
  decide
structure NR where
  i : Int
  e : Int
  s : CS
def nextS (s : CS) : NR := match freeL s with
  | some i => ⟨(i : Int), 0, s⟩
  | none => if s.p = 2 ^ s.n - 1 then ⟨-1, 8, s⟩ else match turnF (2 * s.n) s with
    | some (i, t) => ⟨(i : Int), 0, t⟩
    | none => ⟨-1, 8, s⟩
/-- the free ones as a number -/
def freeN (s : CS) : Nat := (2 ^ s.n - 1) &&& (18446744073709551615 - s.u)
theorem freeN_bit {s : CS} (h : COk s) (j : Nat) : (freeN s).testBit j = (decide (j < s.n) && !s.u.testBit j) := by
  unfold freeN
  have hu := h.u64
  rw [Nat.testBit_and, every_bit, show 18446744073709551615 - s.u = 2 ^ 64 - (s.u + 1) by omega, Nat.testBit_two_pow_sub_succ (by exact hu)]
  rcases Nat.lt_or_ge j s.n with hj | hj
  · rw [decide_eq_true (show j < 64 from Nat.lt_of_lt_of_le hj h.hi)]; simp
  · rw [decide_eq_false (by omega)]; simp
theorem freeN_lt (s : CS) (h : COk s) : freeN s < 18446744073709551616 := by
  have := h.lo
  exact Nat.lt_of_le_of_lt Nat.and_le_left (lt64 (n := s.n) (by have := Nat.two_pow_pos s.n; omega) h.hi)
theorem next_free {s : CS} (h : COk s) (h0 : freeN s ≠ 0) : nextS s = ⟨(Lib.ctz 64 (freeN s) : Int), 0, s⟩ ∧ Lib.ctz 64 (freeN s) < s.n := by
  obtain ⟨h1, h2, h3⟩ := ctz_bit h0 (freeN_lt s h)
  rw [freeN_bit h, Bool.and_eq_true, decide_eq_true_eq] at h1
  refine ⟨?_, h1.1⟩
  unfold nextS
  rw [freeL_some h1.1 (by simpa using h1.2) (fun j hj => by
    have := h2 j hj
    rw [freeN_bit h, decide_eq_true (by omega)] at this
    simpa using this)]
theorem all_used {s : CS} (h : COk s) (h0 : freeN s = 0) : ∀ i, i < s.n → s.u.testBit i = true := fun i hi => by
  have := freeN_bit h i
  rw [h0, Nat.zero_testBit, decide_eq_true hi] at this
  simpa using this.symm
theorem next_all {s : CS} (h0 : ∀ i, i < s.n → s.u.testBit i = true) (hp : s.p = 2 ^ s.n - 1) : nextS s = ⟨-1, 8, s⟩ := by
  unfold nextS
  rw [freeL_none h0]
  simp only [if_pos hp]
theorem next_turn {s : CS} (h : COk s) (h0 : ∀ i, i < s.n → s.u.testBit i = true) (hp : s.p ≠ 2 ^ s.n - 1) : ∃ i t, turnF (2 * s.n) s = some (i, t) ∧ nextS s = ⟨(i : Int), 0, t⟩ := by
  obtain ⟨⟨i, t⟩, hr⟩ := turn_ends h hp
  refine ⟨i, t, hr, ?_⟩
  unfold nextS
  rw [freeL_none h0]
  simp only [if_neg hp, hr]
theorem next_ok {s : CS} (h : COk s) : COk (nextS s).s := by
  by_cases h0 : freeN s = 0
  · by_cases hp : s.p = 2 ^ s.n - 1
    · rw [next_all (all_used h h0) hp]; exact h
    · obtain ⟨i, t, e, e2⟩ := next_turn h (all_used h h0) hp
      rw [e2]
      exact (turn_keep _ _ _ _ h e).2.2.1
  · rw [(next_free h h0).1]; exact h
end Go.Proofs.YtmefpafjcafgnaaDoor
